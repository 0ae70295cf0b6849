/-
  A slice of sections among the arguments: what its reading says to the walks; no statement is proved here.
-/
import Derived.Test.YtclamdpbdafmcaaArgs
import Derived.Test.YtclamdpbdafmcaaAlike
import Derived.Deep.Slices
namespace Go.Proofs.Ytclamdpbdafmcaa
open Go.ChangeShapes Go.WideShapes Go.ChangeAt Go.RowKit
set_option linter.unusedVariables false

/- What the walks ask of a section that came in. -/
def Fit (s : Sec) : Prop := Byt s.name ∧ s.name.length ≤ 140737488351232 ∧ Byt s.data ∧ s.data.length ≤ 140737488351232
theorem cellsO45 : Try.prog.cellsOf 45 = 4 := by kernel_rfl
theorem cellsO3 : Try.prog.cellsOf 3 = 1 := by kernel_rfl
theorem cellsO9 : Try.prog.cellsOf 9 = 1 := by kernel_rfl
theorem cellsO22 : Try.prog.cellsOf 22 = 1 := by kernel_rfl
theorem bytesO45 : Try.prog.bytesOf 45 = 56 := by kernel_rfl
theorem four {α : Type} {l : List α} (h : l.length = 4) : ∃ a b c d, l = [a, b, c, d] := by
  match l, h with
  | [a, b, c, d], _ => exact ⟨a, b, c, d, rfl⟩
theorem one_sec {H : Type} {enc : TypeId × Value → H} {W : World} {n : Nat} {cs : List Value} {x : DataW H × List MemPlace} {b off : Nat}
    (hc : W.cells? 0 ⟨b, off, none⟩ 4 = some cs) (h : DataW.trod enc Try.prog W 0 (fun _ => true) true n 45 cs = some x) (hw : ∀ m ∈ x.1.weights Try.prog 45, m ≤ reachBytes) :
    ∃ s, SecAt W b off s ∧ Fit s := by
  obtain ⟨_, hlen, hcell⟩ := World.cells?_some hc
  obtain ⟨xs, k, hk, hxy, _, hxl, hf⟩ := DataW.trod_struct Try.underlying45 h
  obtain ⟨c0, c1, c2, c3, rfl⟩ := four hlen
  obtain ⟨y0, y1, y2, y3, rfl⟩ := four (l := xs) hxl
  have g0 := hf 0 _ rfl
  have g1 := hf 1 _ rfl
  have g2 := hf 2 _ rfl
  have g3 := hf 3 _ rfl
  simp [cellsO3, cellsO9, cellsO22] at g0 g1 g2 g3
  have e0 := hcell 0 (by omega)
  have e1 := hcell 1 (by omega)
  have e2 := hcell 2 (by omega)
  have e3 := hcell 3 (by omega)
  rw [add_plain] at e0 e1 e2 e3
  have hws : ∀ m ∈ DataW.weightsEach Try.prog [3, 9, 22, 3] [y0.1, y1.1, y2.1, y3.1], m ≤ reachBytes := by
    intro m hm
    refine hw m ?_
    rw [hxy]
    unfold DataW.weights
    rw [Try.underlying45]
    exact hm
  have hall : (DataW.weightsEach Try.prog [3, 9, 22, 3] [y0.1, y1.1, y2.1, y3.1]).all (· ≤ reachBytes) = true := List.all_eq_true.2 (fun m hm => by simpa using hws m hm)
  obtain ⟨v0, q0, _, _⟩ := DataW.trod_int Try.underlying3 g0
  obtain ⟨s1, q1, z1, _⟩ := DataW.trod_string Try.underlying9 g1
  obtain ⟨v3, q3, _, _⟩ := DataW.trod_int Try.underlying3 g3
  simp at q0 q1 q3
  subst q0 q1 q3
  have hs1 : s1.size ≤ 140737488351232 := reach_str (j := 1) (s := s1) hall rfl (by rw [z1]; rfl)
  obtain ⟨m1, hm1, hB1, hl1⟩ := str_is s1
  have hform : ∃ a len cap, c2 = .slice a len cap := by
    rcases open_ints Try.underlying22 Try.underlying5 (by kernel_rfl) g2 with ⟨hcs, _⟩ | ⟨x, l, c, zs, hcs, _⟩
    · simp at hcs; exact ⟨_, _, _, hcs⟩
    · simp at hcs; exact ⟨_, _, _, hcs⟩
  obtain ⟨a2, len2, cap2, rfl⟩ := hform
  obtain ⟨d2, p2⟩ := y2
  obtain ⟨l2, hl2, hR2, hB2, hd2⟩ := open_bytes (d := d2) (p := p2) ⟨k, by simpa [Value.cells] using g2⟩
  have hs2 : l2.length ≤ 140737488351232 := by
    rcases hd2 with ⟨_, h⟩ | ⟨zs, hz, hle⟩
    · omega
    · rw [hl2]; exact reach_bytes (j := 2) hall rfl (by rw [← hz]; rfl) hle
  subst hl2
  refine ⟨⟨v0, m1, l2, v3⟩, ⟨a2, cap2, by simpa using e0, by rw [← hm1]; simpa using e1, by simpa using e2, by simpa using e3, hR2⟩, hB1, by simp only; omega, hB2, hs2⟩
theorem weights_all {H : Type} {P : Program} {e : TypeId} : ∀ {ds : List (DataW H)} {d : DataW H}, d ∈ ds → ∀ n ∈ d.weights P e, n ∈ DataW.weightsAll P e ds := by
  intro ds
  induction ds with
  | nil => intro d h; simp at h
  | cons c r ih =>
    intro d h n hn
    simp only [DataW.weightsAll, List.mem_append]
    rcases List.mem_cons.1 h with rfl | h
    · exact Or.inl hn
    · exact Or.inr (ih h n hn)
set_option maxRecDepth 100000 in
theorem open_secs {H : Type} {enc : TypeId × Value → H} {W : World} {a : Option Addr} {len cap : Nat} {d : DataW H} {p : List MemPlace}
    (hf : DataW.Trod enc Try.prog W 0 (fun _ => true) true 37 (.slice a len cap) d p) (hw : ∀ m ∈ d.weights Try.prog 37, m ≤ reachBytes) :
    ∃ L : List Sec, L.length = len ∧ RdS W (.slice a len cap) L ∧ (∀ s ∈ L, Fit s) ∧ len ≤ 4000000000000 := by
  obtain ⟨fuel, hf⟩ := hf
  rcases Go.Deep.open_slice Try.underlying37 hf with ⟨hcs, _⟩ | ⟨x, l, c, m, n, D, Pl, hcs, _, hl, hm, hmm, hxx, hx⟩
  · simp [Value.cells] at hcs
    obtain ⟨rfl, rfl, rfl⟩ := hcs
    exact ⟨[], rfl, ⟨none, 0, rfl, Or.inl rfl⟩, by simp, by omega⟩
  · simp [Value.cells] at hcs
    obtain ⟨rfl, rfl, rfl⟩ := hcs
    simp only [if_true] at hmm
    subst hmm
    simp only [Prod.mk.injEq] at hxx
    have hd := hxx.1
    have hw37 : d.weights Try.prog 37 = (len + (m - len)) * 56 :: (DataW.weightsAll Try.prog 45 ((List.range len).map D) ++ DataW.weightsAll Try.prog 45 ((List.range (m - len)).map fun j => D (len + j))) := by
      rw [hd]
      simp [DataW.weights, Try.underlying37, bytesO45]
    have hlen : len ≤ 4000000000000 := by
      have := hw ((len + (m - len)) * 56) (by rw [hw37]; simp)
      unfold reachBytes at this
      omega
    by_cases h0 : len = 0
    · subst h0
      exact ⟨[], rfl, ⟨some x, m, rfl, Or.inl rfl⟩, by simp, by omega⟩
    · obtain ⟨b, off, spot⟩ := x
      have hspot : spot = none := by
        obtain ⟨cs', h1, _⟩ := hx 0 (by omega)
        rw [cellsO45] at h1
        obtain ⟨_, hlen, hcell⟩ := World.cells?_some h1
        have := hcell 0 (by omega)
        obtain ⟨c0, c1, c2, c3, rfl⟩ := four hlen
        simp [Addr.add] at this
        exact World.cell?_spot this
      subst hspot
      have each : ∀ i, i < len → ∃ s, SecAt W b (off + i * 4) s ∧ Fit s := by
        intro i hi
        obtain ⟨cs', h1, h2⟩ := hx i (by omega)
        rw [cellsO45, add_plain] at h1
        refine one_sec h1 h2 (fun k hk => hw k ?_)
        rw [hw37]
        refine List.mem_cons_of_mem _ (List.mem_append_left _ (weights_all (d := D i) ?_ k hk))
        exact List.mem_map.2 ⟨i, by simpa using hi, rfl⟩
      haveI : Inhabited Sec := ⟨⟨0, [], [], 0⟩⟩
      obtain ⟨f, hfs⟩ := Go.Deep.choose_lt each
      refine ⟨(List.range len).map f, by simp, ⟨some ⟨b, off, none⟩, m, by simp, Or.inr ⟨b, off, rfl, fun i s hi => ?_⟩⟩, fun s hs => ?_, hlen⟩
      · rw [List.getElem?_map] at hi
        by_cases hil : i < len
        · rw [List.getElem?_range hil] at hi
          simp at hi
          subst hi
          exact (hfs i hil).1
        · rw [List.getElem?_eq_none (by simpa using hil)] at hi
          simp at hi
      · obtain ⟨i, hi, rfl⟩ := List.mem_map.1 hs
        exact (hfs i (by simpa using hi)).2
end Go.Proofs.Ytclamdpbdafmcaa
