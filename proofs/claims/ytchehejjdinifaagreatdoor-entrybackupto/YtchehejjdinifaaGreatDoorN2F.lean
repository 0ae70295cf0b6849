/-
  The walk of wellFormed; no statement is proved here.
-/
import Derived.Deep.WholeRow
import Derived.Test.YtchehejjdinifaaGreatDoorN2W
import Derived.Test.YtchehejjdinifaaGreatDoorRowM
namespace Go.Proofs.YtchehejjdinifaaGreatDoor
open Go.RowKit
set_option linter.unusedVariables false
set_option linter.unusedSimpArgs false

def TBL : Array Value := #[.int .u8 194, .int .u8 223, .int .u8 128, .int .u8 191, .int .u8 224, .int .u8 224, .int .u8 160, .int .u8 191, .int .u8 225, .int .u8 236, .int .u8 128, .int .u8 191, .int .u8 237, .int .u8 237, .int .u8 128, .int .u8 159,
  .int .u8 238, .int .u8 239, .int .u8 128, .int .u8 191, .int .u8 240, .int .u8 240, .int .u8 144, .int .u8 191, .int .u8 241, .int .u8 243, .int .u8 128, .int .u8 191, .int .u8 244, .int .u8 244, .int .u8 128, .int .u8 143]
theorem idx0 (w : World) : (Instr.index 177 (.agg TBL) (.int .i64 0)).run Tryz.prog w = .ok (.agg #[.int .u8 194, .int .u8 223, .int .u8 128, .int .u8 191]) w := by kernel_rfl
theorem idx1 (w : World) : (Instr.index 177 (.agg TBL) (.int .i64 1)).run Tryz.prog w = .ok (.agg #[.int .u8 224, .int .u8 224, .int .u8 160, .int .u8 191]) w := by kernel_rfl
theorem idx2 (w : World) : (Instr.index 177 (.agg TBL) (.int .i64 2)).run Tryz.prog w = .ok (.agg #[.int .u8 225, .int .u8 236, .int .u8 128, .int .u8 191]) w := by kernel_rfl
theorem idx3 (w : World) : (Instr.index 177 (.agg TBL) (.int .i64 3)).run Tryz.prog w = .ok (.agg #[.int .u8 237, .int .u8 237, .int .u8 128, .int .u8 159]) w := by kernel_rfl
theorem idx4 (w : World) : (Instr.index 177 (.agg TBL) (.int .i64 4)).run Tryz.prog w = .ok (.agg #[.int .u8 238, .int .u8 239, .int .u8 128, .int .u8 191]) w := by kernel_rfl
theorem idx5 (w : World) : (Instr.index 177 (.agg TBL) (.int .i64 5)).run Tryz.prog w = .ok (.agg #[.int .u8 240, .int .u8 240, .int .u8 144, .int .u8 191]) w := by kernel_rfl
theorem idx6 (w : World) : (Instr.index 177 (.agg TBL) (.int .i64 6)).run Tryz.prog w = .ok (.agg #[.int .u8 241, .int .u8 243, .int .u8 128, .int .u8 191]) w := by kernel_rfl
theorem idx7 (w : World) : (Instr.index 177 (.agg TBL) (.int .i64 7)).run Tryz.prog w = .ok (.agg #[.int .u8 244, .int .u8 244, .int .u8 128, .int .u8 143]) w := by kernel_rfl
theorem wpList_build_is {P : Program} {ops : Array Oper} {rest : List Oper} {o : Oper} {a : Act} {w : World} {Q : Exit → Act → World → Prop} (hg : o.guard = none) (t : TypeId) (parts : Array (Nat × Operand)) (ho : o.op = .build t parts) (cells : Array Value)
    (hf : P.built t (parts.map fun (i, x) => (i, a.eval x)).toList = some cells)
    (h : wpList P ops Q rest (a.put o.dst (.agg cells)) w) : wpList P ops Q (o :: rest) a w :=
  wpList_build hg t parts ho (by rw [hf]; rfl) (by rw [hf]; exact h)
theorem wpList_store_new {P : Program} {ops : Array Oper} {rest : List Oper} {o : Oper} {a : Act} {w : World} {Q : Exit → Act → World → Prop} (hgd : o.guard = none) (ty : TypeId) (x y : Operand) (ho : o.op = .store ty x y)
    (cells : Array Value) (hx : a.eval x = .pointer (some ⟨w.heap.size, 0, none⟩)) (hy : a.eval y = .agg cells)
    (old : Array Value) (hi : (P.info? ty).map (·.size) = some cells.size)
    (hold : old.size = cells.size) (h1 : cells.all (·.oneCell') = true)
    (h : wpList P ops Q rest (a.put o.dst undef) (w.alloc (.cells cells ty))) : wpList P ops Q (o :: rest) a (w.alloc (.cells old ty)) :=
  wpList_store_row hgd ty x y ho w.heap.size cells hx hy ty old (heap_alloc_last w _) hi hold h1 (by rw [World.setRow_alloc_new]; exact h)
theorem wpList_load_new {P : Program} {ops : Array Oper} {rest : List Oper} {o : Oper} {a : Act} {w : World} {Q : Exit → Act → World → Prop} (hgd : o.guard = none) (ty : TypeId) (x : Operand) (ho : o.op = .load ty x)
    (cells : Array Value) (hx : a.eval x = .pointer (some ⟨w.heap.size, 0, none⟩)) (n : Nat) (e : TypeId) (hu : P.underlying ty = some (.array n e)) (hi : (P.info? ty).map (·.size) = some cells.size)
    (h : wpList P ops Q rest (a.put o.dst (.agg cells)) (w.alloc (.cells cells ty))) : wpList P ops Q (o :: rest) a (w.alloc (.cells cells ty)) :=
  wpList_plain hgd fun _ hK => by
    unfold Oper.wp execOp
    simp only [ho, hx, Sem.run_bind, Result.andThen_ok, run_loadAt_new w ty cells n e hu hi]
    exact hK _ _ h
theorem TBL_size : TBL.size = 32 := rfl
theorem TBL_store (w : World) : (storeCells ⟨w.heap.size, 0, none⟩ TBL.toList).run Tryz.prog (w.alloc (.cells #[.int .u8 0, .int .u8 0, .int .u8 0, .int .u8 0, .int .u8 0, .int .u8 0, .int .u8 0, .int .u8 0, .int .u8 0, .int .u8 0, .int .u8 0, .int .u8 0, .int .u8 0, .int .u8 0, .int .u8 0, .int .u8 0,
    .int .u8 0, .int .u8 0, .int .u8 0, .int .u8 0, .int .u8 0, .int .u8 0, .int .u8 0, .int .u8 0, .int .u8 0, .int .u8 0, .int .u8 0, .int .u8 0, .int .u8 0, .int .u8 0, .int .u8 0, .int .u8 0] 177)) = .ok () (w.alloc (.cells TBL 177)) :=
  run_storeCells_new w 177 _ TBL (by kernel_rfl) rfl (by kernel_rfl)
theorem q_same {f : FuncId} {args : Array Value} {w : World} {M x : Nat} {v : Value} (h : ∀ k, Calls Tryz.prog f args (w.drewN k) fun e w' => e = .returned v ∧ w' = w.drewN k) :
    Calls Tryz.prog f args (w.drewN (M + x)) fun e w'' => e = .returned v ∧ ∃ n, w'' = w.drewN (M + n) := (h (M + x)).mono fun _ _ ⟨he, hm⟩ => ⟨he, x, hm⟩
theorem q_drew {f : FuncId} {args : Array Value} {w : World} {M x : Nat} {v : Value} (h : ∀ k, Calls Tryz.prog f args (w.drewN k) fun e w' => e = .returned v ∧ ∃ n, w' = (w.drewN k).drewN n) :
    Calls Tryz.prog f args (w.drewN (M + x)) fun e w'' => e = .returned v ∧ ∃ n, w'' = w.drewN (M + n) :=
  (h (M + x)).mono fun _ _ ⟨he, n, hm⟩ => ⟨he, x + n, by rw [hm, World.drewN_drewN, Nat.add_assoc]⟩
theorem Below.drewN {B : Nat} {a w : World} (h : Below B a w) (n : Nat) : Below B a (w.drewN n) := ⟨h.os, h.tape, h.output, h.size, h.block⟩
def NoM (k : Nat) (f : Int) : Prop := (1 ≤ k → ¬ (194 ≤ f ∧ f ≤ 223)) ∧ (2 ≤ k → ¬ (224 ≤ f ∧ f ≤ 224)) ∧ (3 ≤ k → ¬ (225 ≤ f ∧ f ≤ 236)) ∧ (4 ≤ k → ¬ (237 ≤ f ∧ f ≤ 237)) ∧ (5 ≤ k → ¬ (238 ≤ f ∧ f ≤ 239)) ∧ (6 ≤ k → ¬ (240 ≤ f ∧ f ≤ 240)) ∧ (7 ≤ k → ¬ (241 ≤ f ∧ f ≤ 243)) ∧ (8 ≤ k → ¬ (244 ≤ f ∧ f ≤ 244))
set_option maxRecDepth 100000 in
set_option maxHeartbeats 4000000 in
theorem begun_any (f : Int) (r : List Int) (w : World) (hb : Byt (f :: r)) (hlen : (f :: r).length ≤ 140737488351232) :
    Calls Tryz.prog 110 #[.string (strOfNums (f :: r))] w fun e w' => e = .returned (.int .i64 (bgn (f :: r))) ∧ Grew w w' := by
  have k1 := TBL_size
  have k2 := TBL_store w
  have hsz := strOfNums_size (f :: r)
  have hr : Byt r := hb.drop 1
  have hix : ∀ (w : World), (Instr.index 9 (.string (strOfNums (f :: r))) (.int .i64 0)).run Tryz.prog w = .ok (.int .u8 f) w := by
    intro w
    rw [run_index_string w 9 _ .i64 0 Tryz.underlying9, dif_pos (by rw [hsz]; simp)]
    have := str_at (f :: r) hb 0 (by rw [hsz]; simp)
    simp only [Int.toNat_zero]
    rw [this]; rfl
  have hsl : ∀ (w : World), (Instr.slice 9 (.string (strOfNums (f :: r))) (some (.int .i64 1)) none none).run Tryz.prog w = .ok (.string (strOfNums r)) w := by
    intro w
    rw [run_slice_string_from_if w 9 _ .i64 1 Tryz.underlying9, if_pos (by rw [hsz]; simp; omega), show (1 : Int).toNat = 1 from rfl, str_drop _ 1 _ hsz]; rfl
  have HK : Hid (∀ (x y : Int) (w : World), Calls Tryz.prog 116 #[.string (strOfNums r), .int .u8 x, .int .u8 y] w fun e w' => e = .returned (.int .i64 (gon r x y)) ∧ w' = w) :=
    fun x y w => goingOn_any r x y w hr (by simp at hlen; omega)
  have hgl : ∀ (l : List Int) (x y : Int), gon l x y ≤ l.length := by
    intro l
    induction l with
    | nil => intro x y; exact Nat.le_refl _
    | cons c l ih => intro x y; simp only [gon, List.length_cons]; split; (have := ih 128 191; omega); omega
  have HL : Hid (∀ x y, gon r x y ≤ 140737488351232) := fun x y => by have := hgl r x y; simp at hlen; omega
  clear hgl
  obtain ⟨f0, f1⟩ := hb 0
  simp only [List.getD_cons_zero] at f0 f1
  have HBG : Hid (∀ n, (194 ≤ f ∧ f ≤ 244 → n = gon r (lo f) (hi f) + 1) → (¬ (194 ≤ f ∧ f ≤ 244) → n = 0) → n = bgn (f :: r)) := by
    intro n h1 h2
    simp only [bgn]
    by_cases h : 194 ≤ f ∧ f ≤ 244
    · rw [if_pos h]; exact h1 h
    · rw [if_neg h]; exact h2 h
  generalize strOfNums (f :: r) = s at *
  generalize strOfNums r = s1 at *
  obtain ⟨N, hN⟩ : ∃ N, N = bgn (f :: r) := ⟨_, rfl⟩
  rw [← hN] at HBG ⊢
  clear hN hb hr hlen hsz
  go_enter Tryz.func110, Tryz.ntmps110
  go_wp2_with (first | (refine wpList_build_is rfl 177 _ rfl TBL (by kernel_rfl) ?_) | (refine wpList_load_new rfl 177 _ rfl TBL rfl 8 176 Tryz.underlying177 (by kernel_rfl) ?_))
  clear k1 k2
  go_loopw [16] (fun i wr => ∃ k : Nat, i = .int .i64 k ∧ k ≤ 8 ∧ NoM k f ∧ Grew w wr) (fun i _ => 8 - (intOf i).toNat)
  case atStart => exact ⟨0, rfl, by omega, by unfold NoM; omega, (Grew.refl w).alloc _⟩
  case round =>
    obtain ⟨k, rfl, hk, hno, hg⟩ := hrel
    have HN : Hid (NoM k f) := hno
    have HG := hg
    clear hno hg
    have hk8 : k = 0 ∨ k = 1 ∨ k = 2 ∨ k = 3 ∨ k = 4 ∨ k = 5 ∨ k = 6 ∨ k = 7 ∨ k = 8 := by omega
    clear hk
    rcases hk8 with rfl | rfl | rfl | rfl | rfl | rfl | rfl | rfl | rfl
    · have hid := idx0
      by_cases h1 : 194 ≤ f
      · by_cases h2 : f ≤ 223
        · have d1 : decide (194 ≤ f) = true := by simpa using h1
          have d2 : decide (f ≤ 223) = true := by simpa using h2
          have HR : Hid (194 ≤ f ∧ f ≤ 223) := ⟨h1, h2⟩
          have hgo := HL.out 128 191
          clear h1 h2
          go_wp2_with fail
          go_quiet (fail)
          go_wp2_with fail
          go_quiet ((go_at_call 116; exact q_same (fun _ => HK.out 128 191 _)))
          go_wp2_with fail
          go_ret
          refine ⟨ret_int ?_, by first | exact ((HG.alloc _).drewN _).drewN _ | exact (HG.alloc _).drewN _⟩
          have := HR.out
          rw [← HBG.out (gon r 128 191 + 1) (fun _ => by have e1 := lo_is f; have e2 := hi_is f; rw [show lo f = 128 from by omega, show hi f = 191 from by omega]) (fun hn => absurd (by omega) hn)]
          omega
        · have d1 : decide (194 ≤ f) = true := by simpa using h1
          have d2 : decide (f ≤ 223) = false := by simpa using h2
          go_wp2_with fail
          go_quiet (fail)
          go_wp2_with fail
          go_roundw
          case rel => exact ⟨1, by go_num, by omega, by have := HN.out; unfold NoM at *; omega, (HG.alloc _).drewN _⟩
          case measure => simp [intOf]
      · have d1 : decide (194 ≤ f) = false := by simpa using h1
        go_wp2_with fail
        go_quiet (fail)
        go_wp2_with fail
        go_roundw
        case rel => exact ⟨1, by go_num, by omega, by have := HN.out; unfold NoM at *; omega, (HG.alloc _).drewN _⟩
        case measure => simp [intOf]
    · have hid := idx1
      by_cases h1 : 224 ≤ f
      · by_cases h2 : f ≤ 224
        · have d1 : decide (224 ≤ f) = true := by simpa using h1
          have d2 : decide (f ≤ 224) = true := by simpa using h2
          have HR : Hid (224 ≤ f ∧ f ≤ 224) := ⟨h1, h2⟩
          have hgo := HL.out 160 191
          clear h1 h2
          go_wp2_with fail
          go_quiet (fail)
          go_wp2_with fail
          go_quiet ((go_at_call 116; exact q_same (fun _ => HK.out 160 191 _)))
          go_wp2_with fail
          go_ret
          refine ⟨ret_int ?_, by first | exact ((HG.alloc _).drewN _).drewN _ | exact (HG.alloc _).drewN _⟩
          have := HR.out
          rw [← HBG.out (gon r 160 191 + 1) (fun _ => by have e1 := lo_is f; have e2 := hi_is f; rw [show lo f = 160 from by omega, show hi f = 191 from by omega]) (fun hn => absurd (by omega) hn)]
          omega
        · have d1 : decide (224 ≤ f) = true := by simpa using h1
          have d2 : decide (f ≤ 224) = false := by simpa using h2
          go_wp2_with fail
          go_quiet (fail)
          go_wp2_with fail
          go_roundw
          case rel => exact ⟨2, by go_num, by omega, by have := HN.out; unfold NoM at *; omega, (HG.alloc _).drewN _⟩
          case measure => simp [intOf]
      · have d1 : decide (224 ≤ f) = false := by simpa using h1
        go_wp2_with fail
        go_quiet (fail)
        go_wp2_with fail
        go_roundw
        case rel => exact ⟨2, by go_num, by omega, by have := HN.out; unfold NoM at *; omega, (HG.alloc _).drewN _⟩
        case measure => simp [intOf]
    · have hid := idx2
      by_cases h1 : 225 ≤ f
      · by_cases h2 : f ≤ 236
        · have d1 : decide (225 ≤ f) = true := by simpa using h1
          have d2 : decide (f ≤ 236) = true := by simpa using h2
          have HR : Hid (225 ≤ f ∧ f ≤ 236) := ⟨h1, h2⟩
          have hgo := HL.out 128 191
          clear h1 h2
          go_wp2_with fail
          go_quiet (fail)
          go_wp2_with fail
          go_quiet ((go_at_call 116; exact q_same (fun _ => HK.out 128 191 _)))
          go_wp2_with fail
          go_ret
          refine ⟨ret_int ?_, by first | exact ((HG.alloc _).drewN _).drewN _ | exact (HG.alloc _).drewN _⟩
          have := HR.out
          rw [← HBG.out (gon r 128 191 + 1) (fun _ => by have e1 := lo_is f; have e2 := hi_is f; rw [show lo f = 128 from by omega, show hi f = 191 from by omega]) (fun hn => absurd (by omega) hn)]
          omega
        · have d1 : decide (225 ≤ f) = true := by simpa using h1
          have d2 : decide (f ≤ 236) = false := by simpa using h2
          go_wp2_with fail
          go_quiet (fail)
          go_wp2_with fail
          go_roundw
          case rel => exact ⟨3, by go_num, by omega, by have := HN.out; unfold NoM at *; omega, (HG.alloc _).drewN _⟩
          case measure => simp [intOf]
      · have d1 : decide (225 ≤ f) = false := by simpa using h1
        go_wp2_with fail
        go_quiet (fail)
        go_wp2_with fail
        go_roundw
        case rel => exact ⟨3, by go_num, by omega, by have := HN.out; unfold NoM at *; omega, (HG.alloc _).drewN _⟩
        case measure => simp [intOf]
    · have hid := idx3
      by_cases h1 : 237 ≤ f
      · by_cases h2 : f ≤ 237
        · have d1 : decide (237 ≤ f) = true := by simpa using h1
          have d2 : decide (f ≤ 237) = true := by simpa using h2
          have HR : Hid (237 ≤ f ∧ f ≤ 237) := ⟨h1, h2⟩
          have hgo := HL.out 128 159
          clear h1 h2
          go_wp2_with fail
          go_quiet (fail)
          go_wp2_with fail
          go_quiet ((go_at_call 116; exact q_same (fun _ => HK.out 128 159 _)))
          go_wp2_with fail
          go_ret
          refine ⟨ret_int ?_, by first | exact ((HG.alloc _).drewN _).drewN _ | exact (HG.alloc _).drewN _⟩
          have := HR.out
          rw [← HBG.out (gon r 128 159 + 1) (fun _ => by have e1 := lo_is f; have e2 := hi_is f; rw [show lo f = 128 from by omega, show hi f = 159 from by omega]) (fun hn => absurd (by omega) hn)]
          omega
        · have d1 : decide (237 ≤ f) = true := by simpa using h1
          have d2 : decide (f ≤ 237) = false := by simpa using h2
          go_wp2_with fail
          go_quiet (fail)
          go_wp2_with fail
          go_roundw
          case rel => exact ⟨4, by go_num, by omega, by have := HN.out; unfold NoM at *; omega, (HG.alloc _).drewN _⟩
          case measure => simp [intOf]
      · have d1 : decide (237 ≤ f) = false := by simpa using h1
        go_wp2_with fail
        go_quiet (fail)
        go_wp2_with fail
        go_roundw
        case rel => exact ⟨4, by go_num, by omega, by have := HN.out; unfold NoM at *; omega, (HG.alloc _).drewN _⟩
        case measure => simp [intOf]
    · have hid := idx4
      by_cases h1 : 238 ≤ f
      · by_cases h2 : f ≤ 239
        · have d1 : decide (238 ≤ f) = true := by simpa using h1
          have d2 : decide (f ≤ 239) = true := by simpa using h2
          have HR : Hid (238 ≤ f ∧ f ≤ 239) := ⟨h1, h2⟩
          have hgo := HL.out 128 191
          clear h1 h2
          go_wp2_with fail
          go_quiet (fail)
          go_wp2_with fail
          go_quiet ((go_at_call 116; exact q_same (fun _ => HK.out 128 191 _)))
          go_wp2_with fail
          go_ret
          refine ⟨ret_int ?_, by first | exact ((HG.alloc _).drewN _).drewN _ | exact (HG.alloc _).drewN _⟩
          have := HR.out
          rw [← HBG.out (gon r 128 191 + 1) (fun _ => by have e1 := lo_is f; have e2 := hi_is f; rw [show lo f = 128 from by omega, show hi f = 191 from by omega]) (fun hn => absurd (by omega) hn)]
          omega
        · have d1 : decide (238 ≤ f) = true := by simpa using h1
          have d2 : decide (f ≤ 239) = false := by simpa using h2
          go_wp2_with fail
          go_quiet (fail)
          go_wp2_with fail
          go_roundw
          case rel => exact ⟨5, by go_num, by omega, by have := HN.out; unfold NoM at *; omega, (HG.alloc _).drewN _⟩
          case measure => simp [intOf]
      · have d1 : decide (238 ≤ f) = false := by simpa using h1
        go_wp2_with fail
        go_quiet (fail)
        go_wp2_with fail
        go_roundw
        case rel => exact ⟨5, by go_num, by omega, by have := HN.out; unfold NoM at *; omega, (HG.alloc _).drewN _⟩
        case measure => simp [intOf]
    · have hid := idx5
      by_cases h1 : 240 ≤ f
      · by_cases h2 : f ≤ 240
        · have d1 : decide (240 ≤ f) = true := by simpa using h1
          have d2 : decide (f ≤ 240) = true := by simpa using h2
          have HR : Hid (240 ≤ f ∧ f ≤ 240) := ⟨h1, h2⟩
          have hgo := HL.out 144 191
          clear h1 h2
          go_wp2_with fail
          go_quiet (fail)
          go_wp2_with fail
          go_quiet ((go_at_call 116; exact q_same (fun _ => HK.out 144 191 _)))
          go_wp2_with fail
          go_ret
          refine ⟨ret_int ?_, by first | exact ((HG.alloc _).drewN _).drewN _ | exact (HG.alloc _).drewN _⟩
          have := HR.out
          rw [← HBG.out (gon r 144 191 + 1) (fun _ => by have e1 := lo_is f; have e2 := hi_is f; rw [show lo f = 144 from by omega, show hi f = 191 from by omega]) (fun hn => absurd (by omega) hn)]
          omega
        · have d1 : decide (240 ≤ f) = true := by simpa using h1
          have d2 : decide (f ≤ 240) = false := by simpa using h2
          go_wp2_with fail
          go_quiet (fail)
          go_wp2_with fail
          go_roundw
          case rel => exact ⟨6, by go_num, by omega, by have := HN.out; unfold NoM at *; omega, (HG.alloc _).drewN _⟩
          case measure => simp [intOf]
      · have d1 : decide (240 ≤ f) = false := by simpa using h1
        go_wp2_with fail
        go_quiet (fail)
        go_wp2_with fail
        go_roundw
        case rel => exact ⟨6, by go_num, by omega, by have := HN.out; unfold NoM at *; omega, (HG.alloc _).drewN _⟩
        case measure => simp [intOf]
    · have hid := idx6
      by_cases h1 : 241 ≤ f
      · by_cases h2 : f ≤ 243
        · have d1 : decide (241 ≤ f) = true := by simpa using h1
          have d2 : decide (f ≤ 243) = true := by simpa using h2
          have HR : Hid (241 ≤ f ∧ f ≤ 243) := ⟨h1, h2⟩
          have hgo := HL.out 128 191
          clear h1 h2
          go_wp2_with fail
          go_quiet (fail)
          go_wp2_with fail
          go_quiet ((go_at_call 116; exact q_same (fun _ => HK.out 128 191 _)))
          go_wp2_with fail
          go_ret
          refine ⟨ret_int ?_, by first | exact ((HG.alloc _).drewN _).drewN _ | exact (HG.alloc _).drewN _⟩
          have := HR.out
          rw [← HBG.out (gon r 128 191 + 1) (fun _ => by have e1 := lo_is f; have e2 := hi_is f; rw [show lo f = 128 from by omega, show hi f = 191 from by omega]) (fun hn => absurd (by omega) hn)]
          omega
        · have d1 : decide (241 ≤ f) = true := by simpa using h1
          have d2 : decide (f ≤ 243) = false := by simpa using h2
          go_wp2_with fail
          go_quiet (fail)
          go_wp2_with fail
          go_roundw
          case rel => exact ⟨7, by go_num, by omega, by have := HN.out; unfold NoM at *; omega, (HG.alloc _).drewN _⟩
          case measure => simp [intOf]
      · have d1 : decide (241 ≤ f) = false := by simpa using h1
        go_wp2_with fail
        go_quiet (fail)
        go_wp2_with fail
        go_roundw
        case rel => exact ⟨7, by go_num, by omega, by have := HN.out; unfold NoM at *; omega, (HG.alloc _).drewN _⟩
        case measure => simp [intOf]
    · have hid := idx7
      by_cases h1 : 244 ≤ f
      · by_cases h2 : f ≤ 244
        · have d1 : decide (244 ≤ f) = true := by simpa using h1
          have d2 : decide (f ≤ 244) = true := by simpa using h2
          have HR : Hid (244 ≤ f ∧ f ≤ 244) := ⟨h1, h2⟩
          have hgo := HL.out 128 143
          clear h1 h2
          go_wp2_with fail
          go_quiet (fail)
          go_wp2_with fail
          go_quiet ((go_at_call 116; exact q_same (fun _ => HK.out 128 143 _)))
          go_wp2_with fail
          go_ret
          refine ⟨ret_int ?_, by first | exact ((HG.alloc _).drewN _).drewN _ | exact (HG.alloc _).drewN _⟩
          have := HR.out
          rw [← HBG.out (gon r 128 143 + 1) (fun _ => by have e1 := lo_is f; have e2 := hi_is f; rw [show lo f = 128 from by omega, show hi f = 143 from by omega]) (fun hn => absurd (by omega) hn)]
          omega
        · have d1 : decide (244 ≤ f) = true := by simpa using h1
          have d2 : decide (f ≤ 244) = false := by simpa using h2
          go_wp2_with fail
          go_quiet (fail)
          go_wp2_with fail
          go_roundw
          case rel => exact ⟨8, by go_num, by omega, by have := HN.out; unfold NoM at *; omega, (HG.alloc _).drewN _⟩
          case measure => simp [intOf]
      · have d1 : decide (244 ≤ f) = false := by simpa using h1
        go_wp2_with fail
        go_quiet (fail)
        go_wp2_with fail
        go_roundw
        case rel => exact ⟨8, by go_num, by omega, by have := HN.out; unfold NoM at *; omega, (HG.alloc _).drewN _⟩
        case measure => simp [intOf]
    · go_wp2_with fail
      go_ret
      refine ⟨ret_int ?_, HG⟩
      rw [← HBG.out 0 (fun h => by have := HN.out; unfold NoM at this; omega) (fun _ => rfl)]; rfl
end Go.Proofs.YtchehejjdinifaaGreatDoor

namespace Go.Proofs.YtchehejjdinifaaGreatDoor
open Go.RowKit
set_option linter.unusedVariables false
set_option linter.unusedSimpArgs false

theorem Grew.iter (w : World) (s : ByteArray) (pos : Nat) : Grew w (w.iter s pos) := (Grew.refl w).alloc _
theorem ret_place {a a' : Int} {b b' : Bool} (h1 : a = a') (h2 : b = b') : Ending.returned (.tuple #[.int .i64 a, .bool b]) = .returned (.tuple #[.int .i64 a', .bool b']) := by rw [h1, h2]
theorem stop_le (l : List Int) (a : Nat) : stop l a ≤ 4 := by
  unfold stop
  have h := lt_cases (l.getD a 0)
  split
  · omega
  · have := run_le l a (lt (l.getD a 0)) (l.getD a 0) 4 1 (by omega)
    omega
set_option maxRecDepth 100000 in
set_option maxHeartbeats 4000000 in
theorem wf_any (l : List Int) (w : World) (hb : Byt l) (hlen : l.length ≤ 140737488351232) :
    Calls Tryz.prog 99 #[.string (strOfNums l)] w fun e w' => e = .returned (.tuple #[.int .i64 (U l).1, .bool (U l).2]) ∧ Grew w w' := by
  have hsz := strOfNums_size l
  have HSL : Hid (∀ (i : Nat) (w : World), i ≤ l.length → (Instr.slice 9 (.string (strOfNums l)) (some (.int .i64 i)) none none).run Tryz.prog w = .ok (.string (strOfNums (l.drop i))) w) := by
    intro i w hi
    rw [run_slice_string_from_if w 9 _ .i64 i Tryz.underlying9, if_pos (by rw [hsz]; omega), Int.toNat_natCast, str_drop _ i _ hsz]
  have HD1 : Hid (∀ pos, pos < l.length → whole l pos → (Utf8.decode (strOfNums l) pos).2 = lt (l.getD pos 0) ∧ ((Utf8.decode (strOfNums l) pos).1 = 65533 → (l.drop pos).take 3 = [239, 191, 189])) := fun pos h hw => dec_whole hb h hw
  have HD2 : Hid (∀ pos, pos < l.length → ¬ whole l pos → Utf8.decode (strOfNums l) pos = (65533, 1) ∧ (l.drop pos).take 3 ≠ [239, 191, 189]) := fun pos h hw => dec_bad hb h hw
  have HP : Hid (∀ (pos : Nat) (b : Bool) (w : World), b = decide ((l.drop pos).take 3 = [239, 191, 189]) → Calls Tryz.prog 109 #[.string (strOfNums (l.drop pos)), .string ⟨#[239, 191, 189]⟩] w fun e w' => e = .returned (.bool b) ∧ w' = w) :=
    fun pos b w h => prefix_any (l.drop pos) b w h (hb.drop pos)
  have HB : Hid (∀ (pos : Nat) (w : World), pos < l.length → ¬ whole l pos → Calls Tryz.prog 110 #[.string (strOfNums (l.drop pos))] w fun e w' => e = .returned (.int .i64 (stop l pos)) ∧ Grew w w') := by
    intro pos w h hw
    rw [← bgn_stop h hw]
    have e : l.drop pos = l.getD pos 0 :: l.drop (pos + 1) := by
      rw [List.drop_eq_getElem_cons h]; simp [List.getD, h]
    have hbd := hb.drop pos
    rw [e] at hbd ⊢
    exact begun_any _ _ w hbd (by simp; omega)
  generalize strOfNums l = s at *
  obtain ⟨rU, hU⟩ : ∃ r, r = U l := ⟨_, rfl⟩
  rw [← hU]
  have HU : Hid (rU = uat l 0) := hU
  clear hU hb
  go_enter Tryz.func99, Tryz.ntmps99
  go_wp2_with fail
  go_loopw [4, 5] (fun _ _ w' => ∃ (pos : Nat), w' = w.iter s pos ∧ rU = uat l pos) (fun _ _ w' => s.size - w'.iterPos w.heap.size)
  case atStart => exact ⟨0, rfl, HU.out⟩
  case round =>
    obtain ⟨pos, rfl, hu⟩ := hrel
    have HUP : Hid (rU = uat l pos) := hu
    clear hu
    by_cases hp : pos < s.size
    · have hp' : pos < l.length := by omega
      have hsl := fun w => HSL.out pos w (by omega)
      have hnx : ∀ ty, (Instr.next (.pointer (some ⟨w.heap.size, 0, none⟩)) true ty).run Tryz.prog (w.iter s pos) = _ := fun ty => run_next_any w s pos ty hp
      by_cases hw : whole l pos
      · obtain ⟨h1, h2⟩ := HD1.out pos hp' hw
        obtain ⟨R, hR⟩ : ∃ R, (Utf8.decode s pos).1 = R := ⟨_, rfl⟩
        obtain ⟨K, hK⟩ : ∃ K, (Utf8.decode s pos).2 = K := ⟨_, rfl⟩
        have hl := lt_pos hw
        rw [hR] at h2
        rw [hK] at h1
        simp only [hR, hK] at hnx
        have HN : Hid (rU = uat l (pos + K)) := by rw [h1, ← uat_step hp' hw]; exact HUP.out
        have hK1 : 1 ≤ K := by omega
        clear h1 hl hK hR
        by_cases hr : R = 65533
        · have hr' : ((R : Int) == 65533) = true := beq_iff_eq.2 (by omega)
          have c := fun w => HP.out pos true w (by rw [h2 hr]; rfl)
          clear hr h2 hw
          go_wp2_with fail
          refine (c _).mono ?_
          rintro e w1 ⟨rfl, rfl⟩
          clear c
          go_wp2_with fail
          go_roundw
          case rel => exact ⟨pos + K, rfl, HN.out⟩
          case measure => simp; omega
        · have hr' : ((R : Int) == 65533) = false := beq_eq_false_iff_ne.2 (by omega)
          clear hr h2 hw
          go_wp2_with fail
          go_roundw
          case rel => exact ⟨pos + K, rfl, HN.out⟩
          case measure => simp; omega
      · obtain ⟨h1, h2⟩ := HD2.out pos hp' hw
        rw [h1] at hnx
        have c := fun w => HP.out pos false w (by simp [h2])
        have c2 := fun w => HB.out pos w hp' hw
        have hst := stop_le l pos
        have HN : Hid (rU = (((pos + stop l pos : Nat) : Int), false)) := by rw [← uat_bad hp' hw]; exact HUP.out
        clear h1 h2 hw
        generalize stop l pos = st at *
        go_wp2_with fail
        refine (c _).mono ?_
        rintro e w1 ⟨rfl, rfl⟩
        clear c
        go_wp2_with fail
        refine (c2 _).mono ?_
        rintro e w1 ⟨rfl, hg⟩
        clear c2
        go_wp2_with fail
        go_ret2
        refine ⟨ret_place (by rw [HN.out]; omega) (by rw [HN.out]), ?_⟩
        exact (Grew.iter w s _).trans hg
    · have hnx : ∀ ty, (Instr.next (.pointer (some ⟨w.heap.size, 0, none⟩)) true ty).run Tryz.prog (w.iter s pos) = _ := fun ty => run_next_end w s pos ty hp
      go_wp2_with fail
      go_ret2
      have := HUP.out
      rw [uat_end (by omega)] at this
      exact ⟨ret_place (by rw [this]) (by rw [this]), Grew.iter w s _⟩
end Go.Proofs.YtchehejjdinifaaGreatDoor
