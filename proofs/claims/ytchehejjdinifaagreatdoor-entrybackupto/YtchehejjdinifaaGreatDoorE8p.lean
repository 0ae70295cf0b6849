/-
  Imports and exports written whole by the program; no statement is proved here.
-/
import Derived.Test.YtchehejjdinifaaGreatDoorE8i
namespace Go.Proofs.YtchehejjdinifaaGreatDoor
open Go.RowKit
set_option linter.unusedVariables false
set_option linter.unusedSimpArgs false
set_option linter.constructorNameAsVariable false

set_option maxRecDepth 100000 in
set_option maxHeartbeats 1000000 in
theorem wcaughtM (bE : Nat) (p e y : Int) (older : List PanicEntry) (w : World) (hE : w.heap[bE]? = some (ic y 39)) :
    CallsD Tryz.prog 30 #[.pointer (some ⟨bE, 0, none⟩)] (.panicking ({ v := .iface 74 (.agg #[.int .i64 p, .int .i64 e]), recovered := false } :: older)) w fun en u' w' =>
      en = .returned (.tuple #[]) ∧ u' = .panicking ({ v := .iface 74 (.agg #[.int .i64 p, .int .i64 e]), recovered := true } :: older) ∧ w' = w.setCell ⟨bE, 0, none⟩ (.int .i64 e) := by
  have c1 := cell_of hE 0
  have z1 := free_of hE 0
  simp at c1
  clear hE
  refine callsD_of_wpS Tryz.func30 rfl fun c₀ cs hu => ?_
  apply wpS_seq
  apply wpS_region
  simp [wpOpsS, go_sem, recoverD, hu, Tryz.ntmps30, Exit.thenS]
  refine wpS_of_wp ?_
  rw [show (#[Value.pointer (some { block := bE, off := 0 })] ++
          ((Array.replicate 7 undef).setIfInBounds 1 (Value.iface 74 (Value.agg #[Value.int IntKind.i64 p, Value.int IntKind.i64 e]))).setIfInBounds 0 (Value.iface 74 (Value.agg #[Value.int IntKind.i64 p, Value.int IntKind.i64 e])) : Array Value) = #[Value.pointer (some { block := bE, off := 0 }), Value.iface 74 (Value.agg #[Value.int IntKind.i64 p, Value.int IntKind.i64 e]), Value.iface 74 (Value.agg #[Value.int IntKind.i64 p, Value.int IntKind.i64 e]), undef, undef, undef, undef, undef] from rfl]
  clear hu
  have ha := assertF
  have hf := fieldE
  go_wp2
  simp [bodyPostS, results, Tryz.results30]
theorem widleM (bE : Nat) (w : World) :
    CallsD Tryz.prog 30 #[.pointer (some ⟨bE, 0, none⟩)] .returning w fun en u' w' => en = .returned (.tuple #[]) ∧ u' = .returning ∧ w' = w := by
  refine callsD_of_wpS Tryz.func30 rfl fun c₀ cs hu => ?_
  apply wpS_seq
  apply wpS_region
  simp [wpOpsS, go_sem, recoverD, hu, Tryz.ntmps30, Exit.thenS]
  refine wpS_of_wp ?_
  rw [show (#[Value.pointer (some { block := bE, off := 0 })] ++
          ((Array.replicate 7 undef).setIfInBounds 1 Value.nilIface).setIfInBounds 0 Value.nilIface : Array Value) = #[Value.pointer (some { block := bE, off := 0 }), .nilIface, .nilIface, undef, undef, undef, undef, undef] from rfl]
  go_wp2
  cases c₀
  simp_all [bodyPostS, results, Tryz.results30]
set_option maxRecDepth 100000 in
set_option maxHeartbeats 1000000 in
theorem writtenM_any (is : Array Value) (his : (Tryz.prog.info? 37).map (·.size) = some is.size) (w : World) (hT : Tab w) (R : Except Nat (List Int))
    (HC : ∀ (W : World) (b B : Nat), WS b B W [] → Grew w W → Calls Tryz.prog 16 #[.pointer (some ⟨b, 0, none⟩), .agg is] W (WAns b B W [] R)) :
    Calls Tryz.prog 15 #[.agg is, .func (.func 16) #[] #[]] w (PAns w R) := by
  have hmf : ∀ (fn : Fn) (first cap : Array Value) (w : World), (Instr.makeFunc fn first cap).run Tryz.prog w = .ok (.func fn first cap) w := fun _ _ _ _ => rfl
  have HT : Hid (Tab w) := hT
  have hpos := hT.pos
  have HCC : Hid (∀ (W : World) (b B : Nat), WS b B W [] → Grew w W → Calls Tryz.prog 16 #[.pointer (some ⟨b, 0, none⟩), .agg is] W (WAns b B W [] R)) := HC
  clear hT HC
  go_enter_defers Tryz.func15, Tryz.ntmps15
  go_wp2_with (first
    | (refine at_load 37 rfl ?_; refine wpList_load_row rfl 37 _ rfl w.heap.size rfl 37 is (0, 0) _ (heap_three _ _ _ _).1 Tryz.underlying37 rfl his ?_)
    | fail)
  generalize hW : ((w.alloc (Obj.cells is 37)).alloc (Obj.cells #[Value.int IntKind.i64 0] 39)).alloc (Obj.cells #[Value.slice none 0 0] 76) = W
  have G0 : Hid (Grew w W) := by rw [← hW]; exact (((Grew.refl w).alloc _).alloc _).alloc _
  obtain ⟨X0, E0, o0⟩ : Hid (W.heap[w.heap.size]? = some (.cells is 37 (0, 0))) ∧ Hid (W.heap[w.heap.size + 1]? = some (ic 0 39)) ∧ W.heap[w.heap.size + 1 + 1]? = some (wob (.slice none 0 0)) := by
    rw [← hW]
    exact heap_three _ _ _ _
  have hsz : W.heap.size = w.heap.size + 1 + 1 + 1 := by rw [← hW]; simp
  have S0 : Hid (WS (w.heap.size + 1 + 1) (w.heap.size + 1 + 1 + 1) W []) := ⟨⟨_, o0, World.ownsRow_nil _ _ _ _⟩, by omega, by omega, HT.out.grew G0.out, by omega, by omega⟩
  clear hW o0
  have V := HCC.out W _ _ S0.out G0.out
  cases R with
  | error e =>
    refine V.mono ?_
    rintro en w2 ⟨⟨p, rfl⟩, t2⟩
    have g2 : Grew w w2 := (t2.turn (G0.out.turn _) (by omega)).grew (Grew.refl w) (by intro y hy; simp at hy; omega)
    have E3 := t2.other E0.out (by omega) (by omega)
    have c0 := cell_of E3 0
    simp [ic] at c0
    clear V t2
    unfold flt
    go_wp2_with fail
    refine leaves_cons (f := 30) (args := #[.pointer (some ⟨w.heap.size + 1, 0, none⟩)]) (by simp) (by simp [go_sem]) ?_
    refine (wcaughtM _ p e 0 [] _ E3).mono ?_
    rintro en u' w4 ⟨rfl, rfl, rfl⟩
    simp [Leaves, settle, results, Tryz.results15, go_sem, c0]
    exact ⟨rfl, g2.set (p := ⟨w.heap.size + 1, 0, none⟩) (by simp) _⟩
  | ok m =>
    refine V.mono ?_
    rintro en w2 ⟨rfl, t2, s2⟩
    have G2 : Hid (Grew w w2) := (t2.turn (G0.out.turn _) (by omega)).grew (Grew.refl w) (by intro y hy; simp at hy; omega)
    have E3 : Hid (w2.heap[w.heap.size + 1]? = some (ic 0 39)) := t2.other E0.out (by omega) (by omega)
    obtain ⟨o, ho, hw⟩ := s2.ex
    obtain ⟨oa, oc, rfl⟩ := row_one hw
    have q0 := cell_of ho 0
    have c0 := cell_of E3.out 0
    have y4 := free_of E3.out 0
    simp [ic] at c0
    simp at q0
    have rw1 : w2.ownsRow (w.heap.size + 1 + 1 + 1) 5 1 (.slice oa m.length oc) m.length (U8 m) := by simpa using hw
    have RW : Hid (w2.ownsRow (w.heap.size + 1 + 1 + 1) 5 1 (.slice oa m.length oc) m.length (U8 m)) := rw1
    clear rw1
    clear V t2 s2 ho hw
    go_wp2_with fail
    refine leaves_cons (f := 30) (args := #[.pointer (some ⟨w.heap.size + 1, 0, none⟩)]) (by simp) (by simp [go_sem]) ?_
    refine (widleM _ _).mono ?_
    rintro en u' w5 ⟨rfl, rfl, rfl⟩
    simp [Leaves, settle, results, Tryz.results15, go_sem, c0]
    exact ⟨_, rfl, row_low (row_set RW.out (NoT.of (t := 39) E3.out (by decide)) _) (by omega), G2.out.set (p := ⟨w.heap.size + 1, 0, none⟩) (by simp) _⟩
set_option maxRecDepth 100000 in
set_option maxHeartbeats 1000000 in
theorem pPutImp_any (w : World) (hT : Tab w) (m n : List Int) (es : List Value) (X : Except Nat (List Int)) (hB1 : Byt m) (hs1 : m.length ≤ 140737488351232) (hB2 : Byt n) (hs2 : n.length ≤ 140737488351232) (hes : (Tryz.prog.info? 35).map (·.size) = some es.length) (his : (Tryz.prog.info? 37).map (·.size) = some (Value.string (strOfNums m) :: .string (strOfNums n) :: es).toArray.size) (hX : ∀ (b B : Nat) (W : World) (l' : List Int), l'.length ≤ 17592186030000 → WS b B W l' → Calls Tryz.prog 32 #[.pointer (some ⟨b, 0, none⟩), .agg es.toArray] W (W2 b B W l' X)) : Calls Tryz.prog 7 #[.agg (.string (strOfNums m) :: .string (strOfNums n) :: es).toArray] w (PAns w (impW m n X)) := by
  have HI : ∀ (W : World) (b B : Nat), WS b B W [] → Calls Tryz.prog 16 #[.pointer (some ⟨b, 0, none⟩), .agg (.string (strOfNums m) :: .string (strOfNums n) :: es).toArray] W (W2 b B W [] (impW m n X)) := fun W b B hS => import2 hS m n es X hB1 hs1 hB2 hs2 hes (by simp) (hX b B)
  clear hX hes
  generalize (Value.string (strOfNums m) :: .string (strOfNums n) :: es).toArray = is at *
  have C := writtenM_any is his (w.alloc (.cells is 37)) (hT.grew ((Grew.refl w).alloc _)) (impW m n X) (fun W b B hS _ => W2.wans (HI W b B hS))
  clear HI
  clear hT
  generalize impW m n X = R at *
  go_enter Tryz.func7, Tryz.ntmps7
  go_wp2_with (first
    | (refine at_load 37 rfl ?_; refine wpList_load_row rfl 37 _ rfl w.heap.size rfl 37 is (0, 0) _ (heap_alloc_last _ _) Tryz.underlying37 rfl his ?_)
    | fail)
  refine C.mono ?_
  intro en w1 ha
  clear C
  cases R with
  | error e =>
    obtain ⟨rfl, g1⟩ := ha
    have G1 : Hid (Grew w w1) := ((Grew.refl w).alloc _).trans g1
    clear g1
    go_wp2_with fail
    go_ret2
    exact ⟨rfl, G1.out⟩
  | ok m =>
    obtain ⟨rv, rfl, r1, g1⟩ := ha
    have G1 : Hid (Grew w w1) := ((Grew.refl w).alloc _).trans g1
    have R1 : Hid (w1.ownsRow w.heap.size 5 1 rv m.length (U8 m)) := row_low r1 (by rw [alloc_size]; omega)
    obtain ⟨ra, rc, rfl⟩ := row_one r1
    clear g1 r1
    go_wp2_with fail
    go_ret2
    exact ⟨_, rfl, R1.out, G1.out⟩
end Go.Proofs.YtchehejjdinifaaGreatDoor
