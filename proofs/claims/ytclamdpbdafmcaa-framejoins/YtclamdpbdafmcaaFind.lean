/-
  The walks of Find, both sides'; no statement is proved here.
-/
import Derived.Test.YtclamdpbdafmcaaJoinW
import Derived.Test.YtclamdpbdafmcaaOpenS
namespace Go.Proofs.Ytclamdpbdafmcaa
open Go.RowKit
set_option linter.unusedVariables false

/- The first section of an id. -/
def fnd : List Sec → Int → Option Sec
  | [], _ => none
  | s :: r, id => if s.id = id then some s else fnd r id
/- What both sides' Find answers. -/
def Found (w w' : World) (o : Option Sec) (en : Ending) : Prop :=
  match o with
  | some s => ∃ v, en = .returned (.tuple #[secV s.id (strOfNums s.name) v s.at_, .bool true]) ∧ Reads w' v s.data
  | none => en = .returned (.tuple #[secV 0 ⟨#[]⟩ (.slice none 0 0) 0, .bool false])
theorem noB_sec {w : World} {b : Nat} {y : ByteArray} (h : w.heap[b]? = some (.cells #[.int .i64 0, .string y, .slice none 0 0, .int .i64 0] 45 (0, 0))) : NoB w b := by
  intro j m hc
  have hj := cell_of h j
  rw [hj] at hc
  match j with
  | 0 => simp at hc
  | 1 => simp at hc
  | 2 => simp at hc
  | 3 => simp at hc
  | j + 4 => simp at hc
set_option maxRecDepth 100000 in
set_option maxHeartbeats 4000000 in
theorem find_any (v : Value) (L : List Sec) (id : Int) (w : World) (hR : RdS w v L) (hL : ∀ s ∈ L, Fit s) (hlen : L.length ≤ 4000000000000) :
    Calls Try.prog 26 #[v, .int .i64 id] w fun en w' => Grew w w' ∧ Found w w' (fnd L id) en := by
  obtain ⟨F, hF⟩ : ∃ F, F = fnd L id := ⟨_, rfl⟩
  rw [← hF]
  have HF : Hid (F = fnd L id) := hF
  have HRS : Hid (RdS w v L) := hR
  have HL : Hid (∀ s ∈ L, Fit s) := hL
  obtain ⟨a, cap, rfl, hR⟩ := hR
  clear hF hR hL
  go_enter Try.func26, Try.ntmps26
  go_wp2_with fail
  go_loopw [10] (fun i wr => ∃ k : Nat, i = .int .i64 k ∧ k ≤ L.length ∧ Grew (w.alloc (.cells #[.int .i64 0, .string ⟨#[]⟩, .slice none 0 0, .int .i64 0] 45 (0, 0))) wr ∧ F = fnd (L.drop k) id) (fun i _ => L.length - (intOf i).toNat)
  case atStart => exact ⟨0, rfl, by omega, Grew.refl _, HF.out⟩
  case round =>
    obtain ⟨k, rfl, hk, hg, hFk⟩ := hrel
    have HG0 : Hid (Grew (w.alloc (.cells #[.int .i64 0, .string ⟨#[]⟩, .slice none 0 0, .int .i64 0] 45 (0, 0))) wr) := hg
    have HG : Hid (Grew w wr) := ((Grew.refl w).alloc _).trans hg
    have HZ : Hid (wr.heap[w.heap.size]? = some (.cells #[.int .i64 0, .string ⟨#[]⟩, .slice none 0 0, .int .i64 0] 45 (0, 0))) := (hg.turn []).other (heap_alloc_last _ _) (by simp)
    have HFk : Hid (F = fnd (L.drop k) id) := hFk
    clear hg hFk
    by_cases hlt : k < L.length
    · obtain ⟨s, hs⟩ : ∃ s, L[k]? = some s := ⟨_, List.getElem?_eq_getElem hlt⟩
      have hmem : s ∈ L := List.mem_of_getElem? hs
      obtain ⟨a', cap', hv', hR'⟩ := HRS.out.grew HG.out
      injection hv' with hv1 hv2 hv3
      subst hv1; subst hv3
      obtain ⟨b1, o1, rfl, f1⟩ := hR'.resolve_left (fun h => by rw [h] at hlt; simp at hlt)
      obtain ⟨ad1, cd1, p0, p1, p2, p3, r1⟩ := f1 k s hs
      obtain ⟨hm1, hm2, hm3, hm4⟩ := HL.out s hmem
      have HD : Hid (L.drop k = s :: L.drop (k + 1)) := by
        show _ = _
        rw [List.drop_eq_getElem_cons hlt]
        congr 1
        rw [List.getElem?_eq_getElem hlt] at hs
        injection hs
      have RS : Hid (Reads wr (.slice ad1 s.data.length cd1) s.data) := r1
      clear f1 r1 hs hv2 hR'
      by_cases hid : s.id = id
      · have hb : (s.id == id) = true := beq_iff_eq.2 hid
        have hFs : F = some s := by rw [HFk.out, HD.out, fnd, if_pos hid]
        subst hFs
        have cc := fun (w : World) h => copied_any s.id (strOfNums s.name) (.slice ad1 s.data.length cd1) s.data s.at_ w h hm4
        unfold secV at cc
        clear hid hm1 hm2 hm3
        go_wp2_with fail
        refine (cc _ (((Grew.refl wr).alloc _).reads RS.out)).mono ?_
        rintro en w2 ⟨v2, rfl, h2⟩
        have G2 : Hid (Grew wr w2) := ((Grew.refl wr).alloc _).trans h2.gr
        have R2 : Hid (Reads w2 v2 s.data) := h2.reads
        obtain ⟨a2, k2, hv2⟩ := h2.reads.len
        subst hv2
        have hz := (G2.out.turn []).other HZ.out (by simp)
        have c0 := cell_of hz 0
        have c1 := cell_of hz 1
        have c2 := cell_of hz 2
        have c3 := cell_of hz 3
        have z0 := free_of hz 0
        have z1 := free_of hz 1
        have z2 := free_of hz 2
        have z3 := free_of hz 3
        simp at c0 c1 c2 c3 z0 z1 z2 z3
        have HZ2 : Hid (w2.heap[w.heap.size]? = some (.cells #[.int .i64 0, .string ⟨#[]⟩, .slice none 0 0, .int .i64 0] 45 (0, 0))) := hz
        clear cc h2 hz
        go_wp2_with fail
        refine bodyPost_ret (v := .tuple #[.agg #[.int .i64 s.id, .string (strOfNums s.name), .slice a2 s.data.length k2, .int .i64 s.at_], .bool true]) (by simp [results, Try.results26, go_sem, c0, c1, c2, c3]) rfl ?_
        have T : Turn [w.heap.size] w2 _ := Turn.set (p := ⟨w.heap.size, 3, none⟩) (Turn.set (p := ⟨w.heap.size, 2, none⟩) (Turn.set (p := ⟨w.heap.size, 1, none⟩) (Turn.set (p := ⟨w.heap.size, 0, none⟩) (Turn.refl [w.heap.size] w2) (Or.inl List.mem_cons_self) (.int .i64 s.id)) (Or.inl List.mem_cons_self) (.string (strOfNums s.name))) (Or.inl List.mem_cons_self) (.slice a2 s.data.length k2)) (Or.inl List.mem_cons_self) (.int .i64 s.at_)
        exact ⟨T.grew (HG.out.trans G2.out) (by simp), _, rfl, R2.out.turn T (fun b hb => by simp at hb; subst hb; exact noB_sec HZ2.out)⟩
      · have hb : (s.id == id) = false := beq_eq_false_iff_ne.2 hid
        have HI : Hid (s.id ≠ id) := hid
        clear hid hm1 hm2 hm3 hm4
        go_wp2_with fail
        go_roundw
        case rel => exact ⟨k + 1, by go_num, by omega, HG0.out.alloc _, by rw [HFk.out, HD.out, fnd, if_neg HI.out]⟩
        case measure => simp [intOf]; omega
    · have hFs : F = none := by rw [HFk.out, List.drop_of_length_le (by omega)]; rfl
      subst hFs
      have hz := HZ.out
      have c0 := cell_of hz 0
      have c1 := cell_of hz 1
      have c2 := cell_of hz 2
      have c3 := cell_of hz 3
      have z0 := free_of hz 0
      have z1 := free_of hz 1
      have z2 := free_of hz 2
      have z3 := free_of hz 3
      simp at c0 c1 c2 c3 z0 z1 z2 z3
      clear hz
      go_wp2_with fail
      refine bodyPost_ret (v := .tuple #[.agg #[.int .i64 0, .string ⟨#[]⟩, .slice none 0 0, .int .i64 0], .bool false]) (by simp [results, Try.results26, go_sem, c0, c1, c2, c3]) rfl ?_
      have T : Turn [w.heap.size] wr _ := Turn.set (p := ⟨w.heap.size, 3, none⟩) (Turn.set (p := ⟨w.heap.size, 2, none⟩) (Turn.set (p := ⟨w.heap.size, 1, none⟩) (Turn.set (p := ⟨w.heap.size, 0, none⟩) (Turn.refl [w.heap.size] wr) (Or.inl List.mem_cons_self) (.int .i64 0)) (Or.inl List.mem_cons_self) (.string ⟨#[]⟩)) (Or.inl List.mem_cons_self) (.slice none 0 0)) (Or.inl List.mem_cons_self) (.int .i64 0)
      exact ⟨T.grew HG.out (by simp), rfl⟩
end Go.Proofs.Ytclamdpbdafmcaa
