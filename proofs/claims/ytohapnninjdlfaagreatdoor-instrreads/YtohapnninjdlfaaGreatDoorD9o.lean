/-
  The document's Read of instructions; no statement is proved here.
-/
import Derived.Test.YtohapnninjdlfaaGreatDoorInR
import Derived.Test.YtohapnninjdlfaaGreatDoorD9i
import Derived.Test.YtohapnninjdlfaaGreatDoorD9j
import Derived.Test.YtohapnninjdlfaaGreatDoorD9k
import Derived.Test.YtohapnninjdlfaaGreatDoorD9l
import Derived.Test.YtohapnninjdlfaaGreatDoorD9n
namespace Go.Proofs.YtohapnninjdlfaaGreatDoor
open Go.RowKit
set_option linter.unusedVariables false
set_option linter.unusedSimpArgs false
set_option linter.constructorNameAsVariable false

theorem rest_any {w : World} {b : Nat} {v : Value} {l : List Int} {st0 : Except (Nat × Nat) Nat} (h : D9 w b v l st0) (op : Int) (h0 : 0 ≤ op) (h1 : op ≤ 65535) :
    Calls Tryz.prog 10 #[.pointer (some ⟨b, 0, none⟩), .int .i64 op] w fun en w' => ∃ es st', en = .returned (.agg es) ∧ es.size = 17 ∧ (∀ (j : Nat) (u : Value), es[j]? = some u → u.oneCell' = true) ∧ Fin9 b v l w w' st' ∧ InsA w.heap.size (runI (restF op l) st0) es w' st' := by
  obtain ⟨b0, b1⟩ := formP_bd op
  have : formP op = 0 ∨ formP op = 1 ∨ formP op = 2 ∨ formP op = 3 ∨ formP op = 4 ∨ formP op = 5 ∨ formP op = 6 ∨ formP op = 7 ∨ formP op = 8 ∨ formP op = 9 ∨ formP op = 10 ∨ formP op = 11 ∨ formP op = 12 ∨ formP op = 13 ∨ formP op = 14 ∨ formP op = 15 ∨ formP op = 16 := by omega
  rcases this with hk | hk | hk | hk | hk | hk | hk | hk | hk | hk | hk | hk | hk | hk | hk | hk | hk
  · exact rest0_any h op h0 h1 hk
  · exact rest1_any h op h0 h1 hk
  · exact rest2_any h op h0 h1 hk
  · exact rest3_any h op h0 h1 hk
  · exact rest4_any h op h0 h1 hk
  · exact rest5_any h op h0 h1 hk
  · exact rest6_any h op h0 h1 hk
  · exact rest7_any h op h0 h1 hk
  · exact rest8_any h op h0 h1 hk
  · exact rest9_any h op h0 h1 hk
  · exact rest10_any h op h0 h1 hk
  · exact rest11_any h op h0 h1 hk
  · exact rest12_any h op h0 h1 hk
  · exact rest13_any h op h0 h1 hk
  · exact rest14_any h op h0 h1 hk
  · exact rest15_any h op h0 h1 hk
  · exact rest16_any h op h0 h1 hk
set_option maxRecDepth 100000 in
set_option maxHeartbeats 4000000 in
theorem dread_out (v : Value) (l : List Int) (x : Int) (w : World) (hR : Reads w v l) (hB : Byt l) (hl : l.length ≤ 140737488351232) (hx : ¬ (0 ≤ x ∧ x ≤ l.length)) :
    Calls Tryz.prog 5 #[v, .int .i64 x] w fun en w' => en = .returned (.tuple #[.agg #[.int .i64 0, .int .u32 0, .int .u32 0, .int .u64 0, .int .u32 0, .int .u32 0, .int .u64 0, .int .i64 0, .int .i64 0, .bool false, .int .i64 0, .slice none 0 0, .slice none 0 0, .bool false, .slice none 0 0, .slice none 0 0, .slice none 0 0], .int .i64 0, .int .i64 1]) ∧ Grew w w' := by
  obtain ⟨a, cap, rfl⟩ := hR.len
  have fin : (results Tryz.f5 #[]).run Tryz.prog w = (results Tryz.f5 #[]).run Tryz.prog w := rfl
  clear fin hR
  by_cases h0 : x < 0
  · have d0 : decide (x < 0) = true := by simpa using h0
    clear hx h0
    go_enter Tryz.func5, Tryz.ntmps5
    go_wp2_with (first
      | with_reducible refine stop_store 36 rfl ?_
      | fail)
    unfold Stop
    refine wpList_store_last rfl 36 _ _ rfl #[.int .i64 0, .int .u32 0, .int .u32 0, .int .u64 0, .int .u32 0, .int .u32 0, .int .u64 0, .int .i64 0, .int .i64 0, .bool false, .int .i64 0, .slice none 0 0, .slice none 0 0, .bool false, .slice none 0 0, .slice none 0 0, .slice none 0 0] rfl rfl _ (by kernel_rfl) rfl z17_one ?_
    go_wp2_with fail
    have l1 : (loadVar 36 ⟨w.heap.size, 0, none⟩).run Tryz.prog (w.alloc (.cells #[.int .i64 0, .int .u32 0, .int .u32 0, .int .u64 0, .int .u32 0, .int .u32 0, .int .u64 0, .int .i64 0, .int .i64 0, .bool false, .int .i64 0, .slice none 0 0, .slice none 0 0, .bool false, .slice none 0 0, .slice none 0 0, .slice none 0 0] 36)) = .ok (.agg #[.int .i64 0, .int .u32 0, .int .u32 0, .int .u64 0, .int .u32 0, .int .u32 0, .int .u64 0, .int .i64 0, .int .i64 0, .bool false, .int .i64 0, .slice none 0 0, .slice none 0 0, .bool false, .slice none 0 0, .slice none 0 0, .slice none 0 0]) (w.alloc (.cells #[.int .i64 0, .int .u32 0, .int .u32 0, .int .u64 0, .int .u32 0, .int .u32 0, .int .u64 0, .int .i64 0, .int .i64 0, .bool false, .int .i64 0, .slice none 0 0, .slice none 0 0, .bool false, .slice none 0 0, .slice none 0 0, .slice none 0 0] 36)) := run_loadVar_row _ _ 36 36 _ (0, 0) _ (heap_alloc_last _ _) Tryz.underlying36 rfl (by kernel_rfl)
    refine bodyPost_ret (v := .tuple #[.agg #[.int .i64 0, .int .u32 0, .int .u32 0, .int .u64 0, .int .u32 0, .int .u32 0, .int .u64 0, .int .i64 0, .int .i64 0, .bool false, .int .i64 0, .slice none 0 0, .slice none 0 0, .bool false, .slice none 0 0, .slice none 0 0, .slice none 0 0], .int .i64 0, .int .i64 1]) (by simp [results, Tryz.results5, asAddr, l1]) rfl ?_
    exact ⟨rfl, (Grew.refl w).alloc _⟩
  · have d0 : decide (x < 0) = false := by simpa using h0
    have d1 : decide ((l.length : Int) < x) = true := by simp; omega
    clear hx h0
    go_enter Tryz.func5, Tryz.ntmps5
    go_wp2_with (first
      | with_reducible refine stop_store 36 rfl ?_
      | fail)
    unfold Stop
    refine wpList_store_last rfl 36 _ _ rfl #[.int .i64 0, .int .u32 0, .int .u32 0, .int .u64 0, .int .u32 0, .int .u32 0, .int .u64 0, .int .i64 0, .int .i64 0, .bool false, .int .i64 0, .slice none 0 0, .slice none 0 0, .bool false, .slice none 0 0, .slice none 0 0, .slice none 0 0] rfl rfl _ (by kernel_rfl) rfl z17_one ?_
    go_wp2_with fail
    have l1 : (loadVar 36 ⟨w.heap.size, 0, none⟩).run Tryz.prog (w.alloc (.cells #[.int .i64 0, .int .u32 0, .int .u32 0, .int .u64 0, .int .u32 0, .int .u32 0, .int .u64 0, .int .i64 0, .int .i64 0, .bool false, .int .i64 0, .slice none 0 0, .slice none 0 0, .bool false, .slice none 0 0, .slice none 0 0, .slice none 0 0] 36)) = .ok (.agg #[.int .i64 0, .int .u32 0, .int .u32 0, .int .u64 0, .int .u32 0, .int .u32 0, .int .u64 0, .int .i64 0, .int .i64 0, .bool false, .int .i64 0, .slice none 0 0, .slice none 0 0, .bool false, .slice none 0 0, .slice none 0 0, .slice none 0 0]) (w.alloc (.cells #[.int .i64 0, .int .u32 0, .int .u32 0, .int .u64 0, .int .u32 0, .int .u32 0, .int .u64 0, .int .i64 0, .int .i64 0, .bool false, .int .i64 0, .slice none 0 0, .slice none 0 0, .bool false, .slice none 0 0, .slice none 0 0, .slice none 0 0] 36)) := run_loadVar_row _ _ 36 36 _ (0, 0) _ (heap_alloc_last _ _) Tryz.underlying36 rfl (by kernel_rfl)
    refine bodyPost_ret (v := .tuple #[.agg #[.int .i64 0, .int .u32 0, .int .u32 0, .int .u64 0, .int .u32 0, .int .u32 0, .int .u64 0, .int .i64 0, .int .i64 0, .bool false, .int .i64 0, .slice none 0 0, .slice none 0 0, .bool false, .slice none 0 0, .slice none 0 0, .slice none 0 0], .int .i64 0, .int .i64 1]) (by simp [results, Tryz.results5, asAddr, l1]) rfl ?_
    exact ⟨rfl, (Grew.refl w).alloc _⟩
set_option maxRecDepth 100000 in
set_option maxHeartbeats 4000000 in
theorem dread_in (v : Value) (l : List Int) (x : Int) (w : World) (hR : Reads w v l) (hB : Byt l) (hl : l.length ≤ 140737488351232) (p : Nat) (hp : p ≤ l.length) (hxp : x = (p : Int)) :
    Calls Tryz.prog 5 #[v, .int .i64 x] w fun en w' => ∃ es f e, en = .returned (.tuple #[.agg es, .int .i64 f, .int .i64 e]) ∧ Grew w w' ∧ RdI w.heap.size (insF l p) es f e w' := by
  subst hxp
  have d0 : decide ((p : Int) < 0) = false := decide_eq_false (by omega)
  have d1 : decide ((l.length : Int) < (p : Int)) = false := by simp; omega
  have d2 : decide (l.length < p) = false := by simp; omega
  have hW1' : w.heap.size ≤ ((w.alloc (.cells #[.int .i64 0, .int .u32 0, .int .u32 0, .int .u64 0, .int .u32 0, .int .u32 0, .int .u64 0, .int .i64 0, .int .i64 0, .bool false, .int .i64 0, .slice none 0 0, .slice none 0 0, .bool false, .slice none 0 0, .slice none 0 0, .slice none 0 0] 36)).alloc (.cells #[v, .int .i64 (p : Int), .int .i64 0, .int .i64 0] 51)).heap.size := by rw [alloc_size, alloc_size]; omega
  have GW : Hid (Grew w ((w.alloc (.cells #[.int .i64 0, .int .u32 0, .int .u32 0, .int .u64 0, .int .u32 0, .int .u32 0, .int .u64 0, .int .i64 0, .int .i64 0, .bool false, .int .i64 0, .slice none 0 0, .slice none 0 0, .bool false, .slice none 0 0, .slice none 0 0, .slice none 0 0] 36)).alloc (.cells #[v, .int .i64 (p : Int), .int .i64 0, .int .i64 0] 51))) := ((Grew.refl w).alloc _).alloc _
  have hb : ((w.alloc (.cells #[.int .i64 0, .int .u32 0, .int .u32 0, .int .u64 0, .int .u32 0, .int .u32 0, .int .u64 0, .int .i64 0, .int .i64 0, .bool false, .int .i64 0, .slice none 0 0, .slice none 0 0, .bool false, .slice none 0 0, .slice none 0 0, .slice none 0 0] 36)).alloc (.cells #[v, .int .i64 (p : Int), .int .i64 0, .int .i64 0] 51)).heap[w.heap.size + 1]? = some (rdg9 v p 0 0) := by
    have := heap_alloc_last (w.alloc (.cells #[.int .i64 0, .int .u32 0, .int .u32 0, .int .u64 0, .int .u32 0, .int .u32 0, .int .u64 0, .int .i64 0, .int .i64 0, .bool false, .int .i64 0, .slice none 0 0, .slice none 0 0, .bool false, .slice none 0 0, .slice none 0 0, .slice none 0 0] 36)) (.cells #[v, .int .i64 (p : Int), .int .i64 0, .int .i64 0] 51)
    rw [alloc_size] at this
    exact this
  have ha : ((w.alloc (.cells #[.int .i64 0, .int .u32 0, .int .u32 0, .int .u64 0, .int .u32 0, .int .u32 0, .int .u64 0, .int .i64 0, .int .i64 0, .bool false, .int .i64 0, .slice none 0 0, .slice none 0 0, .bool false, .slice none 0 0, .slice none 0 0, .slice none 0 0] 36)).alloc (.cells #[v, .int .i64 (p : Int), .int .i64 0, .int .i64 0] 51)).heap[w.heap.size]? = some (.cells #[.int .i64 0, .int .u32 0, .int .u32 0, .int .u64 0, .int .u32 0, .int .u32 0, .int .u64 0, .int .i64 0, .int .i64 0, .bool false, .int .i64 0, .slice none 0 0, .slice none 0 0, .bool false, .slice none 0 0, .slice none 0 0, .slice none 0 0] 36 (0, 0)) := heap_alloc (heap_alloc_last _ _) _
  have D0 : Hid (D9 ((w.alloc (.cells #[.int .i64 0, .int .u32 0, .int .u32 0, .int .u64 0, .int .u32 0, .int .u32 0, .int .u64 0, .int .i64 0, .int .i64 0, .bool false, .int .i64 0, .slice none 0 0, .slice none 0 0, .bool false, .slice none 0 0, .slice none 0 0, .slice none 0 0] 36)).alloc (.cells #[v, .int .i64 (p : Int), .int .i64 0, .int .i64 0] 51)) (w.heap.size + 1) v l (.ok p)) := ⟨⟨hb, hp⟩, GW.out.reads hR, hB, hl⟩
  have A0 : Hid (((w.alloc (.cells #[.int .i64 0, .int .u32 0, .int .u32 0, .int .u64 0, .int .u32 0, .int .u32 0, .int .u64 0, .int .i64 0, .int .i64 0, .bool false, .int .i64 0, .slice none 0 0, .slice none 0 0, .bool false, .slice none 0 0, .slice none 0 0, .slice none 0 0] 36)).alloc (.cells #[v, .int .i64 (p : Int), .int .i64 0, .int .i64 0] 51)).heap[w.heap.size]? = some (.cells #[.int .i64 0, .int .u32 0, .int .u32 0, .int .u64 0, .int .u32 0, .int .u32 0, .int .u64 0, .int .i64 0, .int .i64 0, .bool false, .int .i64 0, .slice none 0 0, .slice none 0 0, .bool false, .slice none 0 0, .slice none 0 0, .slice none 0 0] 36 (0, 0))) := ha
  obtain ⟨a, cap, rfl⟩ := hR.len
  clear hR hb ha
  go_enter Tryz.func5, Tryz.ntmps5
  go_wp2_with fail
  refine (d9opcode_any D0.out).mono ?_
  rintro en w1 ⟨op, st1, rfl, hop, f1, t1⟩
  have T1 : Hid (TieI (opR l p) op st1) := t1
  have F1 : Hid (Fin9 (w.heap.size + 1) (.slice a l.length cap) l ((w.alloc (.cells #[.int .i64 0, .int .u32 0, .int .u32 0, .int .u64 0, .int .u32 0, .int .u32 0, .int .u64 0, .int .i64 0, .int .i64 0, .bool false, .int .i64 0, .slice none 0 0, .slice none 0 0, .bool false, .slice none 0 0, .slice none 0 0, .slice none 0 0] 36)).alloc (.cells #[.slice a l.length cap, .int .i64 (p : Int), .int .i64 0, .int .i64 0] 51)) w1 st1) := f1
  clear t1 f1
  go_wp2_with fail
  refine (rest_any F1.out.2 op hop.1 hop.2).mono ?_
  rintro en w2 ⟨es, st2, rfl, hsz, hone', f2', ir'⟩
  rw [← insF_is T1.out] at ir'
  have f2 : Fin9 (w.heap.size + 1) (.slice a l.length cap) l ((w.alloc (.cells #[.int .i64 0, .int .u32 0, .int .u32 0, .int .u64 0, .int .u32 0, .int .u32 0, .int .u64 0, .int .i64 0, .int .i64 0, .bool false, .int .i64 0, .slice none 0 0, .slice none 0 0, .bool false, .slice none 0 0, .slice none 0 0, .slice none 0 0] 36)).alloc (.cells #[.slice a l.length cap, .int .i64 (p : Int), .int .i64 0, .int .i64 0] 51)) w2 st2 := ⟨F1.out.1.trans f2'.1, f2'.2⟩
  have ir : InsA ((w.alloc (.cells #[.int .i64 0, .int .u32 0, .int .u32 0, .int .u64 0, .int .u32 0, .int .u32 0, .int .u64 0, .int .i64 0, .int .i64 0, .bool false, .int .i64 0, .slice none 0 0, .slice none 0 0, .bool false, .slice none 0 0, .slice none 0 0, .slice none 0 0] 36)).alloc (.cells #[.slice a l.length cap, .int .i64 (p : Int), .int .i64 0, .int .i64 0] 51)).heap.size (insF l p) es w2 st2 := by
    have hle := F1.out.1.size
    cases st2 with
    | error e => exact ir'
    | ok q =>
      obtain ⟨i, lab, ty, ca, e1, e2, r1, r2, r3⟩ := ir'
      exact ⟨i, lab, ty, ca, e1, e2, row_low r1 hle, row_low r2 hle, row_low r3 hle⟩
  clear f2' ir'
  have IR : Hid (InsA ((w.alloc (.cells #[.int .i64 0, .int .u32 0, .int .u32 0, .int .u64 0, .int .u32 0, .int .u32 0, .int .u64 0, .int .i64 0, .int .i64 0, .bool false, .int .i64 0, .slice none 0 0, .slice none 0 0, .bool false, .slice none 0 0, .slice none 0 0, .slice none 0 0] 36)).alloc (.cells #[.slice a l.length cap, .int .i64 (p : Int), .int .i64 0, .int .i64 0] 51)).heap.size (insF l p) es w2 st2) := ir
  have A2 : Hid (w2.heap[w.heap.size]? = some (.cells #[.int .i64 0, .int .u32 0, .int .u32 0, .int .u64 0, .int .u32 0, .int .u32 0, .int .u64 0, .int .i64 0, .int .i64 0, .bool false, .int .i64 0, .slice none 0 0, .slice none 0 0, .bool false, .slice none 0 0, .slice none 0 0, .slice none 0 0] 36 (0, 0))) := f2.1.other A0.out (by simp)
  have S2 : Hid (St9 w2 (w.heap.size + 1) (.slice a l.length cap) l st2) := f2.2.st
  have hlt : w.heap.size + 1 < w2.heap.size := f2.2.lt
  have G2 : Hid (Grew w w2) := f2.1.grew GW.out (by simp)
  have hone : es.all (·.oneCell') = true := by rw [Array.all_eq_true]; intro i hi; exact hone' i _ (by simp)
  have hW1 := hW1'
  clear ir f2 hone' D0 A0 GW hW1' F1 T1 hop
  generalize ((w.alloc (.cells #[.int .i64 0, .int .u32 0, .int .u32 0, .int .u64 0, .int .u32 0, .int .u32 0, .int .u64 0, .int .i64 0, .int .i64 0, .bool false, .int .i64 0, .slice none 0 0, .slice none 0 0, .bool false, .slice none 0 0, .slice none 0 0, .slice none 0 0] 36)).alloc (.cells #[.slice a l.length cap, .int .i64 (p : Int), .int .i64 0, .int .i64 0] 51)).heap.size = BB at *
  go_wp2_with (first
    | with_reducible refine stop_store 36 rfl ?_
    | fail)
  unfold Stop
  refine wpList_store_last rfl 36 _ _ rfl es rfl rfl _ (by rw [hsz]; kernel_rfl) (by rw [hsz]; rfl) hone ?_
  have GA : Hid (Grew w2 (w2.alloc (.cells es 36))) := (Grew.refl w2).alloc _
  have D3 : Hid ((w2.alloc (.cells es 36)).heap[w2.heap.size]? = some (.cells es 36 (0, 0))) := heap_alloc_last _ _
  have A3 : Hid ((w2.alloc (.cells es 36)).heap[w.heap.size]? = some (.cells #[.int .i64 0, .int .u32 0, .int .u32 0, .int .u64 0, .int .u32 0, .int .u32 0, .int .u64 0, .int .i64 0, .int .i64 0, .bool false, .int .i64 0, .slice none 0 0, .slice none 0 0, .bool false, .slice none 0 0, .slice none 0 0, .slice none 0 0] 36 (0, 0))) := heap_alloc A2.out _
  have S3 : Hid (St9 (w2.alloc (.cells es 36)) (w.heap.size + 1) (.slice a l.length cap) l st2) := S2.out.same (GA.out.1.block _ hlt)
  have G3 : Hid (Grew w (w2.alloc (.cells es 36))) := G2.out.trans GA.out
  clear S2
  generalize hMM : w2.heap.size = MM at *
  generalize hW3 : w2.alloc (.cells es 36) = W3 at *
  clear hW3 hMM
  cases st2 with
  | ok q =>
    have hb3 := S3.out.1
    have B3 : Hid (W3.heap[w.heap.size + 1]? = some (rdg9 (.slice a l.length cap) q 0 0)) := hb3
    have y2 := cell_of hb3 3
    simp at y2
    clear hb3 S3
    go_wp2_with fail
    refine wp_normal ?_
    refine wp_region_any (by kernel_rfl) ?_
    change wpAny _ _ _ _ _ _ _ (World.drew _)
    refine wpAny_take (i := 1) (v := .pointer (some ⟨w.heap.size + 1, 0, none⟩)) rfl (by kernel_rfl) (by kernel_rfl) (by kernel_rfl) (fun _ _ _ h => absurd h.1 (by simp)) (Or.inl ⟨by rfl, ?_⟩) ?_
    · intro w; go_simp
    refine wpAny_take (i := 2) (v := .pointer (some ⟨w.heap.size + 1, 0, none⟩)) rfl (by kernel_rfl) (by kernel_rfl) (by kernel_rfl) (fun _ _ _ h => absurd h.1 (by simp)) (Or.inl ⟨by rfl, ?_⟩) ?_
    · intro w; go_simp
    refine wpAny_take (i := 3) (v := .pointer (some ⟨w.heap.size + 1, 1, none⟩)) rfl (by kernel_rfl) (by kernel_rfl) (by kernel_rfl) (fun _ _ _ h => absurd h.1 (by simp)) (Or.inl ⟨by rfl, ?_⟩) ?_
    · intro w; go_simp
    skip
    generalize hw4 : World.drew W3 = w4
    have D4 : w4.heap[MM]? = some (.cells es 36 (0, 0)) := by rw [← hw4]; exact D3.out
    have A4 : w4.heap[w.heap.size]? = some (.cells #[.int .i64 0, .int .u32 0, .int .u32 0, .int .u64 0, .int .u32 0, .int .u32 0, .int .u64 0, .int .i64 0, .int .i64 0, .bool false, .int .i64 0, .slice none 0 0, .slice none 0 0, .bool false, .slice none 0 0, .slice none 0 0, .slice none 0 0] 36 (0, 0)) := by rw [← hw4]; exact A3.out
    have B4 : w4.heap[w.heap.size + 1]? = some (rdg9 (.slice a l.length cap) q 0 0) := by rw [← hw4]; exact B3.out
    have G4 : Hid (Grew w w4) := by rw [← hw4]; exact G3.out.drew
    have u1 := cell_of B4 1
    have u2 := cell_of B4 2
    have v3 := cell_of B4 3
    generalize hw5 : w4.setRow w.heap.size es = w5
    have A6 : Hid (w5.heap[w.heap.size]? = some (.cells es 36 (0, 0))) := by rw [← hw5]; exact heap_setRow A4
    have B5 : w5.heap[w.heap.size + 1]? = some (rdg9 (.slice a l.length cap) q 0 0) := by rw [← hw5]; exact (setRow_other _ _ _ _ (by omega)).trans B4
    have G5 : Hid (Grew w w5) := by rw [← hw5]; exact G4.out.setRow (Nat.le_refl _) _
    have u3 := cell_of B5 1
    have u4 := cell_of B5 2
    have v5 := cell_of B5 3
    simp at u1 u2 u3 u4 v3 v5
    have RR : Hid (RdI w.heap.size (insF l p) es q 0 w5) := by
      have T5 : Turn [w.heap.size] w2 w5 := by rw [← hw5, ← hw4]; exact (((Turn.refl [w.heap.size] w2).trans (GA.out.turn _)).drew).trans (Turn.rowSelf _ _ _)
      have I5 := IR.out.turn T5 (by intro x hx; simp at hx; subst hx; exact NoT.of A2.out (by decide)) (by intro x hx; simp at hx; subst hx; exact NoT.of A2.out (by decide)) (by intro x hx; simp at hx; subst hx; exact NoT.of A2.out (by decide))
      obtain ⟨i, lab, ty, ca, e1, e2, r1, r2, r3⟩ := I5
      show RdI _ (insF l p) _ _ _ _
      rw [e1]
      exact ⟨rfl, rfl, lab, ty, ca, e2, row_low r1 hW1, row_low r2 hW1, row_low r3 hW1⟩
    clear hw4 B4 B5 A3 B3 D3 IR G3
    refine wpAny_ready (rs := [0, 4]) (by kernel_rfl) (by simp) ?_
    refine AllReady.cons (by simp only [List.getElem?_toArray, List.getElem?_cons_succ, List.getElem?_cons_zero]; rfl) ?_ ?_
    · intro K hK
      refine stepL_row rfl 36 (.tmp 8) rfl MM (by kernel_rfl) 36 es (0, 0) _ D4 Tryz.underlying36 rfl (by rw [hsz]; kernel_rfl) ?_
      go_simp
      refine hK _ _ ?_
      clear hK K
      refine wpAny_ready (rs := [4, 5]) (by kernel_rfl) (by simp) ?_
      refine AllReady.cons (by simp only [List.getElem?_toArray, List.getElem?_cons_succ, List.getElem?_cons_zero]; rfl) ?_ ?_
      · intro K hK
        go_simp
        refine hK _ _ ?_
        clear hK K
        refine wpAny_ready (rs := [5]) (by kernel_rfl) (by simp) ?_
        refine AllReady.cons (by simp only [List.getElem?_toArray, List.getElem?_cons_succ, List.getElem?_cons_zero]; rfl) (readyS_row rfl 36 (.tmp 4) (.tmp 40) rfl w.heap.size es (by go_simp) (by go_simp) 36 _ A4 (by rw [hsz]; kernel_rfl) (by rw [hsz]; rfl) hone ?_) ?_
        · rw [hw5]
          refine wpAny_ready (rs := [6]) (by kernel_rfl) (by simp) ?_
          refine AllReady.cons (by simp only [List.getElem?_toArray, List.getElem?_cons_succ, List.getElem?_cons_zero]; rfl) ?_ ?_
          · intro K hK
            go_simp
            refine hK _ _ ?_
            clear hK K
            refine wpAny_ready (rs := [7]) (by kernel_rfl) (by simp) ?_
            refine AllReady.cons (by simp only [List.getElem?_toArray, List.getElem?_cons_succ, List.getElem?_cons_zero]; rfl) ?_ ?_
            · intro K hK
              go_simp
              refine hK _ _ ?_
              clear hK K
              refine wpAny_done (by kernel_rfl) ?_ _
              refine ⟨rfl, ?_⟩
              go_wp2_with fail
              have l1 : (loadVar 36 ⟨w.heap.size, 0, none⟩).run Tryz.prog w5 = .ok (.agg es) w5 := run_loadVar_row _ _ 36 36 _ (0, 0) _ A6.out Tryz.underlying36 rfl (by rw [hsz]; kernel_rfl)
              refine bodyPost_ret (v := .tuple #[.agg es, .int .i64 q, .int .i64 0]) (by simp [results, Tryz.results5, asAddr, l1]) rfl ?_
              exact ⟨es, _, _, rfl, G5.out, RR.out⟩
            exact AllReady.nil
          exact AllReady.nil
        exact AllReady.nil
      refine AllReady.cons (by simp only [List.getElem?_toArray, List.getElem?_cons_succ, List.getElem?_cons_zero]; rfl) (readyS_row rfl 36 (.tmp 4) (.tmp 40) rfl w.heap.size es (by go_simp) (by go_simp) 36 _ A4 (by rw [hsz]; kernel_rfl) (by rw [hsz]; rfl) hone ?_) ?_
      · rw [hw5]
        refine wpAny_ready (rs := [4]) (by kernel_rfl) (by simp) ?_
        refine AllReady.cons (by simp only [List.getElem?_toArray, List.getElem?_cons_succ, List.getElem?_cons_zero]; rfl) ?_ ?_
        · intro K hK
          go_simp
          refine hK _ _ ?_
          clear hK K
          refine wpAny_ready (rs := [6]) (by kernel_rfl) (by simp) ?_
          refine AllReady.cons (by simp only [List.getElem?_toArray, List.getElem?_cons_succ, List.getElem?_cons_zero]; rfl) ?_ ?_
          · intro K hK
            go_simp
            refine hK _ _ ?_
            clear hK K
            refine wpAny_ready (rs := [7]) (by kernel_rfl) (by simp) ?_
            refine AllReady.cons (by simp only [List.getElem?_toArray, List.getElem?_cons_succ, List.getElem?_cons_zero]; rfl) ?_ ?_
            · intro K hK
              go_simp
              refine hK _ _ ?_
              clear hK K
              refine wpAny_done (by kernel_rfl) ?_ _
              refine ⟨rfl, ?_⟩
              go_wp2_with fail
              have l1 : (loadVar 36 ⟨w.heap.size, 0, none⟩).run Tryz.prog w5 = .ok (.agg es) w5 := run_loadVar_row _ _ 36 36 _ (0, 0) _ A6.out Tryz.underlying36 rfl (by rw [hsz]; kernel_rfl)
              refine bodyPost_ret (v := .tuple #[.agg es, .int .i64 q, .int .i64 0]) (by simp [results, Tryz.results5, asAddr, l1]) rfl ?_
              exact ⟨es, _, _, rfl, G5.out, RR.out⟩
            exact AllReady.nil
          exact AllReady.nil
        exact AllReady.nil
      exact AllReady.nil
    refine AllReady.cons (by simp only [List.getElem?_toArray, List.getElem?_cons_succ, List.getElem?_cons_zero]; rfl) ?_ ?_
    · intro K hK
      go_simp
      refine hK _ _ ?_
      clear hK K
      refine wpAny_ready (rs := [0]) (by kernel_rfl) (by simp) ?_
      refine AllReady.cons (by simp only [List.getElem?_toArray, List.getElem?_cons_succ, List.getElem?_cons_zero]; rfl) ?_ ?_
      · intro K hK
        refine stepL_row rfl 36 (.tmp 8) rfl MM (by kernel_rfl) 36 es (0, 0) _ D4 Tryz.underlying36 rfl (by rw [hsz]; kernel_rfl) ?_
        go_simp
        refine hK _ _ ?_
        clear hK K
        refine wpAny_ready (rs := [5]) (by kernel_rfl) (by simp) ?_
        refine AllReady.cons (by simp only [List.getElem?_toArray, List.getElem?_cons_succ, List.getElem?_cons_zero]; rfl) (readyS_row rfl 36 (.tmp 4) (.tmp 40) rfl w.heap.size es (by go_simp) (by go_simp) 36 _ A4 (by rw [hsz]; kernel_rfl) (by rw [hsz]; rfl) hone ?_) ?_
        · rw [hw5]
          refine wpAny_ready (rs := [6]) (by kernel_rfl) (by simp) ?_
          refine AllReady.cons (by simp only [List.getElem?_toArray, List.getElem?_cons_succ, List.getElem?_cons_zero]; rfl) ?_ ?_
          · intro K hK
            go_simp
            refine hK _ _ ?_
            clear hK K
            refine wpAny_ready (rs := [7]) (by kernel_rfl) (by simp) ?_
            refine AllReady.cons (by simp only [List.getElem?_toArray, List.getElem?_cons_succ, List.getElem?_cons_zero]; rfl) ?_ ?_
            · intro K hK
              go_simp
              refine hK _ _ ?_
              clear hK K
              refine wpAny_done (by kernel_rfl) ?_ _
              refine ⟨rfl, ?_⟩
              go_wp2_with fail
              have l1 : (loadVar 36 ⟨w.heap.size, 0, none⟩).run Tryz.prog w5 = .ok (.agg es) w5 := run_loadVar_row _ _ 36 36 _ (0, 0) _ A6.out Tryz.underlying36 rfl (by rw [hsz]; kernel_rfl)
              refine bodyPost_ret (v := .tuple #[.agg es, .int .i64 q, .int .i64 0]) (by simp [results, Tryz.results5, asAddr, l1]) rfl ?_
              exact ⟨es, _, _, rfl, G5.out, RR.out⟩
            exact AllReady.nil
          exact AllReady.nil
        exact AllReady.nil
      exact AllReady.nil
    exact AllReady.nil
  | error z =>
    obtain ⟨f, e⟩ := z
    obtain ⟨ap, hb3, hap, he0⟩ := S3.out
    have he : ((e : Int) != 0) = true := by simp; exact he0
    have B3 : Hid (W3.heap[w.heap.size + 1]? = some (rdg9 (.slice a l.length cap) ap f e)) := hb3
    have y2 := cell_of hb3 3
    simp at y2
    clear hb3 S3
    go_wp2_with fail
    refine wp_normal ?_
    refine wp_region_any (by kernel_rfl) ?_
    change wpAny _ _ _ _ _ _ _ (World.drew _)
    refine wpAny_take (i := 0) (v := .agg #[.int .i64 0, .int .u32 0, .int .u32 0, .int .u64 0, .int .u32 0, .int .u32 0, .int .u64 0, .int .i64 0, .int .i64 0, .bool false, .int .i64 0, .slice none 0 0, .slice none 0 0, .bool false, .slice none 0 0, .slice none 0 0, .slice none 0 0]) rfl (by kernel_rfl) (by kernel_rfl) (by kernel_rfl) (fun _ _ _ h => absurd h.1 (by simp)) (Or.inl ⟨by rfl, ?_⟩) ?_
    · intro w; go_simp
    refine wpAny_take (i := 1) (v := .pointer (some ⟨w.heap.size + 1, 0, none⟩)) rfl (by kernel_rfl) (by kernel_rfl) (by kernel_rfl) (fun _ _ _ h => absurd h.1 (by simp)) (Or.inl ⟨by rfl, ?_⟩) ?_
    · intro w; go_simp
    refine wpAny_take (i := 2) (v := .pointer (some ⟨w.heap.size + 1, 0, none⟩)) rfl (by kernel_rfl) (by kernel_rfl) (by kernel_rfl) (fun _ _ _ h => absurd h.1 (by simp)) (Or.inl ⟨by rfl, ?_⟩) ?_
    · intro w; go_simp
    refine wpAny_take (i := 3) (v := .pointer (some ⟨w.heap.size + 1, 2, none⟩)) rfl (by kernel_rfl) (by kernel_rfl) (by kernel_rfl) (fun _ _ _ h => absurd h.1 (by simp)) (Or.inl ⟨by rfl, ?_⟩) ?_
    · intro w; go_simp
    refine wpAny_take (i := 5) (v := .pointer (some ⟨w.heap.size + 1, 0, none⟩)) rfl (by kernel_rfl) (by kernel_rfl) (by kernel_rfl) (fun _ _ _ h => absurd h.1 (by simp)) (Or.inl ⟨by rfl, ?_⟩) ?_
    · intro w; go_simp
    refine wpAny_take (i := 6) (v := .pointer (some ⟨w.heap.size + 1, 0, none⟩)) rfl (by kernel_rfl) (by kernel_rfl) (by kernel_rfl) (fun _ _ _ h => absurd h.1 (by simp)) (Or.inl ⟨by rfl, ?_⟩) ?_
    · intro w; go_simp
    refine wpAny_take (i := 7) (v := .pointer (some ⟨w.heap.size + 1, 3, none⟩)) rfl (by kernel_rfl) (by kernel_rfl) (by kernel_rfl) (fun _ _ _ h => absurd h.1 (by simp)) (Or.inl ⟨by rfl, ?_⟩) ?_
    · intro w; go_simp
    have A3' := A3.out
    clear A3
    generalize hzz : (#[.int .i64 0, .int .u32 0, .int .u32 0, .int .u64 0, .int .u32 0, .int .u32 0, .int .u64 0, .int .i64 0, .int .i64 0, .bool false, .int .i64 0, .slice none 0 0, .slice none 0 0, .bool false, .slice none 0 0, .slice none 0 0, .slice none 0 0] : Array Value) = zz at *
    have A3 : Hid (W3.heap[w.heap.size]? = some (.cells zz 36 (0, 0))) := A3'
    have HZ : Hid (zz = insA (IN0 0) NILS NILS NILS) := hzz.symm
    have hzs : zz.size = 17 := by rw [← hzz]; rfl
    have hzo : zz.all (·.oneCell') = true := by rw [← hzz]; exact z17_one
    clear hzz A3'
    generalize hw4 : World.drew W3 = w4
    have D4 : w4.heap[MM]? = some (.cells es 36 (0, 0)) := by rw [← hw4]; exact D3.out
    have A4 : w4.heap[w.heap.size]? = some (.cells zz 36 (0, 0)) := by rw [← hw4]; exact A3.out
    have B4 : w4.heap[w.heap.size + 1]? = some (rdg9 (.slice a l.length cap) ap f e) := by rw [← hw4]; exact B3.out
    have G4 : Hid (Grew w w4) := by rw [← hw4]; exact G3.out.drew
    have u1 := cell_of B4 1
    have u2 := cell_of B4 2
    have v3 := cell_of B4 3
    generalize hw5 : w4.setRow w.heap.size zz = w5
    have A6 : Hid (w5.heap[w.heap.size]? = some (.cells zz 36 (0, 0))) := by rw [← hw5]; exact heap_setRow A4
    have B5 : w5.heap[w.heap.size + 1]? = some (rdg9 (.slice a l.length cap) ap f e) := by rw [← hw5]; exact (setRow_other _ _ _ _ (by omega)).trans B4
    have G5 : Hid (Grew w w5) := by rw [← hw5]; exact G4.out.setRow (Nat.le_refl _) _
    have u3 := cell_of B5 1
    have u4 := cell_of B5 2
    have v5 := cell_of B5 3
    simp at u1 u2 u3 u4 v3 v5
    have RR : Hid (RdI w.heap.size (insF l p) zz f e w5) := by
      have e1 : insF l p = .error (f, e) := IR.out
      show RdI _ (insF l p) _ _ _ _
      rw [e1]
      exact ⟨rfl, rfl, HZ.out⟩
    clear hw4 B4 B5 A3 B3 D3 IR G3
    refine wpAny_ready (rs := [4, 8, 9]) (by kernel_rfl) (by simp) ?_
    refine AllReady.cons (by simp only [List.getElem?_toArray, List.getElem?_cons_succ, List.getElem?_cons_zero]; rfl) ?_ ?_
    · intro K hK
      go_simp
      refine hK _ _ ?_
      clear hK K
      refine wpAny_ready (rs := [8, 9]) (by kernel_rfl) (by simp) ?_
      refine AllReady.cons (by simp only [List.getElem?_toArray, List.getElem?_cons_succ, List.getElem?_cons_zero]; rfl) ?_ ?_
      · intro K hK
        go_simp
        refine hK _ _ ?_
        clear hK K
        refine wpAny_ready (rs := [9]) (by kernel_rfl) (by simp) ?_
        refine AllReady.cons (by simp only [List.getElem?_toArray, List.getElem?_cons_succ, List.getElem?_cons_zero]; rfl) (readyS_row rfl 36 (.tmp 4) (.tmp 31) rfl w.heap.size zz (by go_simp) (by go_simp) 36 _ A4 (by rw [hzs]; kernel_rfl) (by rw [hzs]) hzo ?_) ?_
        · rw [hw5]
          refine wpAny_ready (rs := [10]) (by kernel_rfl) (by simp) ?_
          refine AllReady.cons (by simp only [List.getElem?_toArray, List.getElem?_cons_succ, List.getElem?_cons_zero]; rfl) ?_ ?_
          · intro K hK
            go_simp
            refine hK _ _ ?_
            clear hK K
            refine wpAny_ready (rs := [11]) (by kernel_rfl) (by simp) ?_
            refine AllReady.cons (by simp only [List.getElem?_toArray, List.getElem?_cons_succ, List.getElem?_cons_zero]; rfl) ?_ ?_
            · intro K hK
              go_simp
              refine hK _ _ ?_
              clear hK K
              refine wpAny_done (by kernel_rfl) ?_ _
              refine ⟨rfl, ?_⟩
              go_wp2_with fail
              have l1 : (loadVar 36 ⟨w.heap.size, 0, none⟩).run Tryz.prog w5 = .ok (.agg zz) w5 := run_loadVar_row _ _ 36 36 _ (0, 0) _ A6.out Tryz.underlying36 rfl (by rw [hzs]; kernel_rfl)
              refine bodyPost_ret (v := .tuple #[.agg zz, .int .i64 f, .int .i64 e]) (by simp [results, Tryz.results5, asAddr, l1]) rfl ?_
              exact ⟨_, _, _, rfl, G5.out, RR.out⟩
            exact AllReady.nil
          exact AllReady.nil
        exact AllReady.nil
      refine AllReady.cons (by simp only [List.getElem?_toArray, List.getElem?_cons_succ, List.getElem?_cons_zero]; rfl) (readyS_row rfl 36 (.tmp 4) (.tmp 31) rfl w.heap.size zz (by go_simp) (by go_simp) 36 _ A4 (by rw [hzs]; kernel_rfl) (by rw [hzs]) hzo ?_) ?_
      · rw [hw5]
        refine wpAny_ready (rs := [8, 10]) (by kernel_rfl) (by simp) ?_
        refine AllReady.cons (by simp only [List.getElem?_toArray, List.getElem?_cons_succ, List.getElem?_cons_zero]; rfl) ?_ ?_
        · intro K hK
          go_simp
          refine hK _ _ ?_
          clear hK K
          refine wpAny_ready (rs := [10]) (by kernel_rfl) (by simp) ?_
          refine AllReady.cons (by simp only [List.getElem?_toArray, List.getElem?_cons_succ, List.getElem?_cons_zero]; rfl) ?_ ?_
          · intro K hK
            go_simp
            refine hK _ _ ?_
            clear hK K
            refine wpAny_ready (rs := [11]) (by kernel_rfl) (by simp) ?_
            refine AllReady.cons (by simp only [List.getElem?_toArray, List.getElem?_cons_succ, List.getElem?_cons_zero]; rfl) ?_ ?_
            · intro K hK
              go_simp
              refine hK _ _ ?_
              clear hK K
              refine wpAny_done (by kernel_rfl) ?_ _
              refine ⟨rfl, ?_⟩
              go_wp2_with fail
              have l1 : (loadVar 36 ⟨w.heap.size, 0, none⟩).run Tryz.prog w5 = .ok (.agg zz) w5 := run_loadVar_row _ _ 36 36 _ (0, 0) _ A6.out Tryz.underlying36 rfl (by rw [hzs]; kernel_rfl)
              refine bodyPost_ret (v := .tuple #[.agg zz, .int .i64 f, .int .i64 e]) (by simp [results, Tryz.results5, asAddr, l1]) rfl ?_
              exact ⟨_, _, _, rfl, G5.out, RR.out⟩
            exact AllReady.nil
          exact AllReady.nil
        refine AllReady.cons (by simp only [List.getElem?_toArray, List.getElem?_cons_succ, List.getElem?_cons_zero]; rfl) ?_ ?_
        · intro K hK
          go_simp
          refine hK _ _ ?_
          clear hK K
          refine wpAny_ready (rs := [8]) (by kernel_rfl) (by simp) ?_
          refine AllReady.cons (by simp only [List.getElem?_toArray, List.getElem?_cons_succ, List.getElem?_cons_zero]; rfl) ?_ ?_
          · intro K hK
            go_simp
            refine hK _ _ ?_
            clear hK K
            refine wpAny_ready (rs := [11]) (by kernel_rfl) (by simp) ?_
            refine AllReady.cons (by simp only [List.getElem?_toArray, List.getElem?_cons_succ, List.getElem?_cons_zero]; rfl) ?_ ?_
            · intro K hK
              go_simp
              refine hK _ _ ?_
              clear hK K
              refine wpAny_done (by kernel_rfl) ?_ _
              refine ⟨rfl, ?_⟩
              go_wp2_with fail
              have l1 : (loadVar 36 ⟨w.heap.size, 0, none⟩).run Tryz.prog w5 = .ok (.agg zz) w5 := run_loadVar_row _ _ 36 36 _ (0, 0) _ A6.out Tryz.underlying36 rfl (by rw [hzs]; kernel_rfl)
              refine bodyPost_ret (v := .tuple #[.agg zz, .int .i64 f, .int .i64 e]) (by simp [results, Tryz.results5, asAddr, l1]) rfl ?_
              exact ⟨_, _, _, rfl, G5.out, RR.out⟩
            exact AllReady.nil
          exact AllReady.nil
        exact AllReady.nil
      exact AllReady.nil
    refine AllReady.cons (by simp only [List.getElem?_toArray, List.getElem?_cons_succ, List.getElem?_cons_zero]; rfl) ?_ ?_
    · intro K hK
      go_simp
      refine hK _ _ ?_
      clear hK K
      refine wpAny_ready (rs := [4, 9]) (by kernel_rfl) (by simp) ?_
      refine AllReady.cons (by simp only [List.getElem?_toArray, List.getElem?_cons_succ, List.getElem?_cons_zero]; rfl) ?_ ?_
      · intro K hK
        go_simp
        refine hK _ _ ?_
        clear hK K
        refine wpAny_ready (rs := [9]) (by kernel_rfl) (by simp) ?_
        refine AllReady.cons (by simp only [List.getElem?_toArray, List.getElem?_cons_succ, List.getElem?_cons_zero]; rfl) (readyS_row rfl 36 (.tmp 4) (.tmp 31) rfl w.heap.size zz (by go_simp) (by go_simp) 36 _ A4 (by rw [hzs]; kernel_rfl) (by rw [hzs]) hzo ?_) ?_
        · rw [hw5]
          refine wpAny_ready (rs := [10]) (by kernel_rfl) (by simp) ?_
          refine AllReady.cons (by simp only [List.getElem?_toArray, List.getElem?_cons_succ, List.getElem?_cons_zero]; rfl) ?_ ?_
          · intro K hK
            go_simp
            refine hK _ _ ?_
            clear hK K
            refine wpAny_ready (rs := [11]) (by kernel_rfl) (by simp) ?_
            refine AllReady.cons (by simp only [List.getElem?_toArray, List.getElem?_cons_succ, List.getElem?_cons_zero]; rfl) ?_ ?_
            · intro K hK
              go_simp
              refine hK _ _ ?_
              clear hK K
              refine wpAny_done (by kernel_rfl) ?_ _
              refine ⟨rfl, ?_⟩
              go_wp2_with fail
              have l1 : (loadVar 36 ⟨w.heap.size, 0, none⟩).run Tryz.prog w5 = .ok (.agg zz) w5 := run_loadVar_row _ _ 36 36 _ (0, 0) _ A6.out Tryz.underlying36 rfl (by rw [hzs]; kernel_rfl)
              refine bodyPost_ret (v := .tuple #[.agg zz, .int .i64 f, .int .i64 e]) (by simp [results, Tryz.results5, asAddr, l1]) rfl ?_
              exact ⟨_, _, _, rfl, G5.out, RR.out⟩
            exact AllReady.nil
          exact AllReady.nil
        exact AllReady.nil
      refine AllReady.cons (by simp only [List.getElem?_toArray, List.getElem?_cons_succ, List.getElem?_cons_zero]; rfl) (readyS_row rfl 36 (.tmp 4) (.tmp 31) rfl w.heap.size zz (by go_simp) (by go_simp) 36 _ A4 (by rw [hzs]; kernel_rfl) (by rw [hzs]) hzo ?_) ?_
      · rw [hw5]
        refine wpAny_ready (rs := [4]) (by kernel_rfl) (by simp) ?_
        refine AllReady.cons (by simp only [List.getElem?_toArray, List.getElem?_cons_succ, List.getElem?_cons_zero]; rfl) ?_ ?_
        · intro K hK
          go_simp
          refine hK _ _ ?_
          clear hK K
          refine wpAny_ready (rs := [10]) (by kernel_rfl) (by simp) ?_
          refine AllReady.cons (by simp only [List.getElem?_toArray, List.getElem?_cons_succ, List.getElem?_cons_zero]; rfl) ?_ ?_
          · intro K hK
            go_simp
            refine hK _ _ ?_
            clear hK K
            refine wpAny_ready (rs := [11]) (by kernel_rfl) (by simp) ?_
            refine AllReady.cons (by simp only [List.getElem?_toArray, List.getElem?_cons_succ, List.getElem?_cons_zero]; rfl) ?_ ?_
            · intro K hK
              go_simp
              refine hK _ _ ?_
              clear hK K
              refine wpAny_done (by kernel_rfl) ?_ _
              refine ⟨rfl, ?_⟩
              go_wp2_with fail
              have l1 : (loadVar 36 ⟨w.heap.size, 0, none⟩).run Tryz.prog w5 = .ok (.agg zz) w5 := run_loadVar_row _ _ 36 36 _ (0, 0) _ A6.out Tryz.underlying36 rfl (by rw [hzs]; kernel_rfl)
              refine bodyPost_ret (v := .tuple #[.agg zz, .int .i64 f, .int .i64 e]) (by simp [results, Tryz.results5, asAddr, l1]) rfl ?_
              exact ⟨_, _, _, rfl, G5.out, RR.out⟩
            exact AllReady.nil
          exact AllReady.nil
        exact AllReady.nil
      exact AllReady.nil
    refine AllReady.cons (by simp only [List.getElem?_toArray, List.getElem?_cons_succ, List.getElem?_cons_zero]; rfl) (readyS_row rfl 36 (.tmp 4) (.tmp 31) rfl w.heap.size zz (by go_simp) (by go_simp) 36 _ A4 (by rw [hzs]; kernel_rfl) (by rw [hzs]) hzo ?_) ?_
    · rw [hw5]
      refine wpAny_ready (rs := [4, 8]) (by kernel_rfl) (by simp) ?_
      refine AllReady.cons (by simp only [List.getElem?_toArray, List.getElem?_cons_succ, List.getElem?_cons_zero]; rfl) ?_ ?_
      · intro K hK
        go_simp
        refine hK _ _ ?_
        clear hK K
        refine wpAny_ready (rs := [8, 10]) (by kernel_rfl) (by simp) ?_
        refine AllReady.cons (by simp only [List.getElem?_toArray, List.getElem?_cons_succ, List.getElem?_cons_zero]; rfl) ?_ ?_
        · intro K hK
          go_simp
          refine hK _ _ ?_
          clear hK K
          refine wpAny_ready (rs := [10]) (by kernel_rfl) (by simp) ?_
          refine AllReady.cons (by simp only [List.getElem?_toArray, List.getElem?_cons_succ, List.getElem?_cons_zero]; rfl) ?_ ?_
          · intro K hK
            go_simp
            refine hK _ _ ?_
            clear hK K
            refine wpAny_ready (rs := [11]) (by kernel_rfl) (by simp) ?_
            refine AllReady.cons (by simp only [List.getElem?_toArray, List.getElem?_cons_succ, List.getElem?_cons_zero]; rfl) ?_ ?_
            · intro K hK
              go_simp
              refine hK _ _ ?_
              clear hK K
              refine wpAny_done (by kernel_rfl) ?_ _
              refine ⟨rfl, ?_⟩
              go_wp2_with fail
              have l1 : (loadVar 36 ⟨w.heap.size, 0, none⟩).run Tryz.prog w5 = .ok (.agg zz) w5 := run_loadVar_row _ _ 36 36 _ (0, 0) _ A6.out Tryz.underlying36 rfl (by rw [hzs]; kernel_rfl)
              refine bodyPost_ret (v := .tuple #[.agg zz, .int .i64 f, .int .i64 e]) (by simp [results, Tryz.results5, asAddr, l1]) rfl ?_
              exact ⟨_, _, _, rfl, G5.out, RR.out⟩
            exact AllReady.nil
          exact AllReady.nil
        refine AllReady.cons (by simp only [List.getElem?_toArray, List.getElem?_cons_succ, List.getElem?_cons_zero]; rfl) ?_ ?_
        · intro K hK
          go_simp
          refine hK _ _ ?_
          clear hK K
          refine wpAny_ready (rs := [8]) (by kernel_rfl) (by simp) ?_
          refine AllReady.cons (by simp only [List.getElem?_toArray, List.getElem?_cons_succ, List.getElem?_cons_zero]; rfl) ?_ ?_
          · intro K hK
            go_simp
            refine hK _ _ ?_
            clear hK K
            refine wpAny_ready (rs := [11]) (by kernel_rfl) (by simp) ?_
            refine AllReady.cons (by simp only [List.getElem?_toArray, List.getElem?_cons_succ, List.getElem?_cons_zero]; rfl) ?_ ?_
            · intro K hK
              go_simp
              refine hK _ _ ?_
              clear hK K
              refine wpAny_done (by kernel_rfl) ?_ _
              refine ⟨rfl, ?_⟩
              go_wp2_with fail
              have l1 : (loadVar 36 ⟨w.heap.size, 0, none⟩).run Tryz.prog w5 = .ok (.agg zz) w5 := run_loadVar_row _ _ 36 36 _ (0, 0) _ A6.out Tryz.underlying36 rfl (by rw [hzs]; kernel_rfl)
              refine bodyPost_ret (v := .tuple #[.agg zz, .int .i64 f, .int .i64 e]) (by simp [results, Tryz.results5, asAddr, l1]) rfl ?_
              exact ⟨_, _, _, rfl, G5.out, RR.out⟩
            exact AllReady.nil
          exact AllReady.nil
        exact AllReady.nil
      refine AllReady.cons (by simp only [List.getElem?_toArray, List.getElem?_cons_succ, List.getElem?_cons_zero]; rfl) ?_ ?_
      · intro K hK
        go_simp
        refine hK _ _ ?_
        clear hK K
        refine wpAny_ready (rs := [4]) (by kernel_rfl) (by simp) ?_
        refine AllReady.cons (by simp only [List.getElem?_toArray, List.getElem?_cons_succ, List.getElem?_cons_zero]; rfl) ?_ ?_
        · intro K hK
          go_simp
          refine hK _ _ ?_
          clear hK K
          refine wpAny_ready (rs := [10]) (by kernel_rfl) (by simp) ?_
          refine AllReady.cons (by simp only [List.getElem?_toArray, List.getElem?_cons_succ, List.getElem?_cons_zero]; rfl) ?_ ?_
          · intro K hK
            go_simp
            refine hK _ _ ?_
            clear hK K
            refine wpAny_ready (rs := [11]) (by kernel_rfl) (by simp) ?_
            refine AllReady.cons (by simp only [List.getElem?_toArray, List.getElem?_cons_succ, List.getElem?_cons_zero]; rfl) ?_ ?_
            · intro K hK
              go_simp
              refine hK _ _ ?_
              clear hK K
              refine wpAny_done (by kernel_rfl) ?_ _
              refine ⟨rfl, ?_⟩
              go_wp2_with fail
              have l1 : (loadVar 36 ⟨w.heap.size, 0, none⟩).run Tryz.prog w5 = .ok (.agg zz) w5 := run_loadVar_row _ _ 36 36 _ (0, 0) _ A6.out Tryz.underlying36 rfl (by rw [hzs]; kernel_rfl)
              refine bodyPost_ret (v := .tuple #[.agg zz, .int .i64 f, .int .i64 e]) (by simp [results, Tryz.results5, asAddr, l1]) rfl ?_
              exact ⟨_, _, _, rfl, G5.out, RR.out⟩
            exact AllReady.nil
          exact AllReady.nil
        exact AllReady.nil
      exact AllReady.nil
    exact AllReady.nil
end Go.Proofs.YtohapnninjdlfaaGreatDoor
