/-
  The walks of inum's word, Name, Arity, Types and of the document's Answers; no statement is proved here.
-/
import Derived.Test.YtolllelejdnjlaaRefN
import Derived.Test.YtolllelejdnjlaaLeaf
import Derived.Test.YtolllelejdnjlaaSmall
import Derived.Deep.WholeRow
import Derived.BigQuiet
namespace Go.Proofs.Ytolllelejdnjlaa
open Go.RowKit
set_option linter.unusedVariables false
set_option linter.unusedSimpArgs false

theorem wpList_build_is {P : Program} {ops : Array Oper} {rest : List Oper} {o : Oper} {a : Act} {w : World} {Q : Exit → Act → World → Prop} (hg : o.guard = none) (t : TypeId) (parts : Array (Nat × Operand)) (ho : o.op = .build t parts) (cells : Array Value)
    (hf : P.built t (parts.map fun (i, x) => (i, a.eval x)).toList = some cells)
    (h : wpList P ops Q rest (a.put o.dst (.agg cells)) w) : wpList P ops Q (o :: rest) a w :=
  wpList_build hg t parts ho (by rw [hf]; rfl) (by rw [hf]; exact h)
def WV : Array Value := #[.string ⟨#[]⟩, .string ⟨#[101, 113, 122]⟩, .string ⟨#[101, 113]⟩, .string ⟨#[110, 101]⟩, .string ⟨#[108, 116, 95, 115]⟩, .string ⟨#[108, 116, 95, 117]⟩, .string ⟨#[103, 116, 95, 115]⟩, .string ⟨#[103, 116, 95, 117]⟩, .string ⟨#[108, 101, 95, 115]⟩, .string ⟨#[108, 101, 95, 117]⟩, .string ⟨#[103, 101, 95, 115]⟩, .string ⟨#[103, 101, 95, 117]⟩, .string ⟨#[99, 108, 122]⟩, .string ⟨#[99, 116, 122]⟩, .string ⟨#[112, 111, 112, 99, 110, 116]⟩, .string ⟨#[97, 100, 100]⟩, .string ⟨#[115, 117, 98]⟩, .string ⟨#[109, 117, 108]⟩, .string ⟨#[100, 105, 118, 95, 115]⟩, .string ⟨#[100, 105, 118, 95, 117]⟩, .string ⟨#[114, 101, 109, 95, 115]⟩, .string ⟨#[114, 101, 109, 95, 117]⟩, .string ⟨#[97, 110, 100]⟩, .string ⟨#[111, 114]⟩, .string ⟨#[120, 111, 114]⟩, .string ⟨#[115, 104, 108]⟩, .string ⟨#[115, 104, 114, 95, 115]⟩, .string ⟨#[115, 104, 114, 95, 117]⟩, .string ⟨#[114, 111, 116, 108]⟩, .string ⟨#[114, 111, 116, 114]⟩, .string ⟨#[101, 120, 116, 101, 110, 100, 56, 95, 115]⟩, .string ⟨#[101, 120, 116, 101, 110, 100, 49, 54, 95, 115]⟩, .string ⟨#[101, 120, 116, 101, 110, 100, 51, 50, 95, 115]⟩, .string ⟨#[119, 114, 97, 112, 95, 105, 54, 52]⟩, .string ⟨#[101, 120, 116, 101, 110, 100, 95, 105, 51, 50, 95, 115]⟩, .string ⟨#[101, 120, 116, 101, 110, 100, 95, 105, 51, 50, 95, 117]⟩]
theorem WV_size : WV.size = 36 := rfl
theorem WV_store (w : World) : (storeCells ⟨w.heap.size, 0, none⟩ WV.toList).run Try.prog (w.alloc (.cells #[.string ⟨#[]⟩, .string ⟨#[]⟩, .string ⟨#[]⟩, .string ⟨#[]⟩, .string ⟨#[]⟩, .string ⟨#[]⟩, .string ⟨#[]⟩, .string ⟨#[]⟩, .string ⟨#[]⟩, .string ⟨#[]⟩, .string ⟨#[]⟩, .string ⟨#[]⟩, .string ⟨#[]⟩, .string ⟨#[]⟩, .string ⟨#[]⟩, .string ⟨#[]⟩, .string ⟨#[]⟩, .string ⟨#[]⟩, .string ⟨#[]⟩, .string ⟨#[]⟩, .string ⟨#[]⟩, .string ⟨#[]⟩, .string ⟨#[]⟩, .string ⟨#[]⟩, .string ⟨#[]⟩, .string ⟨#[]⟩, .string ⟨#[]⟩, .string ⟨#[]⟩, .string ⟨#[]⟩, .string ⟨#[]⟩, .string ⟨#[]⟩, .string ⟨#[]⟩, .string ⟨#[]⟩, .string ⟨#[]⟩, .string ⟨#[]⟩, .string ⟨#[]⟩] 55)) = .ok () (w.alloc (.cells WV 55)) :=
  run_storeCells_new w 55 _ WV (by kernel_rfl) rfl (by kernel_rfl)
theorem WV_at : ∀ k : Fin 36, WV[k.val]? = some (.string (wstr (k.val : Int))) := by
  intro k
  have : WV = WT.map Value.string := by unfold WV WT; simp
  rw [this, Array.getElem?_map]
  unfold wstr
  simp [show WT.size = 36 from rfl]
theorem WV_cell (w : World) (k : Nat) (h : k < 36) : (w.alloc (.cells WV 55)).cell? ⟨w.heap.size, k, none⟩ = some (.string (wstr (k : Int))) := by
  unfold World.cell?
  rw [heap_alloc_last]
  have := WV_at ⟨k, h⟩
  simpa using this
set_option maxRecDepth 100000 in
set_option maxHeartbeats 1000000 in
theorem word_any (k : Int) (w : World) (h0 : 0 ≤ k) (h1 : k ≤ 35) :
    Calls Try.prog 22 #[.int .i64 k] w fun e w' => e = .returned (.string (wstr k)) ∧ Grew w w' := by
  have k1 := WV_size
  have k2 := WV_store w
  obtain ⟨n, rfl⟩ : ∃ n : Nat, k = n := ⟨k.toNat, by omega⟩
  have hk : n < 36 := by omega
  have hc := WV_cell w n hk
  generalize wstr (n : Int) = r at *
  go_enter Try.func22, Try.ntmps22
  go_wp2_with (refine wpList_build_is rfl 55 _ rfl WV (by kernel_rfl) ?_)
  go_ret
  exact ⟨rfl, (Grew.refl w).alloc _⟩
end Go.Proofs.Ytolllelejdnjlaa
