/-
  What the rows' lists give: the cells of fnum's table of conversions; no statement is proved here.
-/
import Derived.Test.YtjkebimmddlccabDoorLaid
import Derived.Test.YtjkebimmddlccabDoorConv
namespace Go.Proofs.YtjkebimmddlccabDoor
open Go.RowKit
set_option linter.unusedVariables false
set_option linter.unusedSimpArgs false

theorem gConvs : Tryd.prog.globalNamed "ratchet/fnum.conversions" = some 1 := by kernel_rfl
theorem gConvsType : (Tryd.prog.globals[1]?).map (·.type) = some 66 := by kernel_rfl
theorem cellsConv : Tryd.prog.cellsOf 48 = 4 := by kernel_rfl
theorem cvs_of {W : World} {x : String × DataW Unit} {rest : List (String × DataW Unit)} (h : laidMet Tryd.prog (x :: ("ratchet/fnum.conversions", Rows.laid_ratchet_fnum_conversions) :: rest) W) : Cvs W := by
  obtain ⟨ps, ⟨_, _, _, _, _, _, _, _, _, _, ⟨g', t', cs, fuel, p, q, hg', ht', hvar, hd, _, _⟩, _⟩, _⟩ := h
  obtain rfl := Option.some.inj (gConvs.symm.trans hg')
  obtain rfl := Option.some.inj (gConvsType.symm.trans ht')
  have hc := fun i => World.var?_cell gConvs hvar i
  obtain ⟨m0, q0, h0⟩ := grid_row Tryd.underlying66 cellsConv hd 0 _ rfl
  have c0 : cs.toList[0]? = some (.int .i64 21) := grid_int Tryd.underlying48 h0 0 _ rfl .i64 (by kernel_rfl) (by kernel_rfl) (by decide) 21 rfl
  have c1 : cs.toList[1]? = some (.int .i64 32) := grid_int Tryd.underlying48 h0 1 _ rfl .i64 (by kernel_rfl) (by kernel_rfl) (by decide) 32 rfl
  have c2 : cs.toList[2]? = some (.int .i64 32) := grid_int Tryd.underlying48 h0 2 _ rfl .i64 (by kernel_rfl) (by kernel_rfl) (by decide) 32 rfl
  have c3 : cs.toList[3]? = some (.bool true) := grid_bool Tryd.underlying48 h0 3 _ rfl (by kernel_rfl) (by kernel_rfl) (by decide) true rfl
  obtain ⟨m1, q1, h1⟩ := grid_row Tryd.underlying66 cellsConv hd 1 _ rfl
  have c4 : cs.toList[4]? = some (.int .i64 21) := grid_int Tryd.underlying48 h1 0 _ rfl .i64 (by kernel_rfl) (by kernel_rfl) (by decide) 21 rfl
  have c5 : cs.toList[5]? = some (.int .i64 32) := grid_int Tryd.underlying48 h1 1 _ rfl .i64 (by kernel_rfl) (by kernel_rfl) (by decide) 32 rfl
  have c6 : cs.toList[6]? = some (.int .i64 32) := grid_int Tryd.underlying48 h1 2 _ rfl .i64 (by kernel_rfl) (by kernel_rfl) (by decide) 32 rfl
  have c7 : cs.toList[7]? = some (.bool false) := grid_bool Tryd.underlying48 h1 3 _ rfl (by kernel_rfl) (by kernel_rfl) (by decide) false rfl
  obtain ⟨m2, q2, h2⟩ := grid_row Tryd.underlying66 cellsConv hd 2 _ rfl
  have c8 : cs.toList[8]? = some (.int .i64 21) := grid_int Tryd.underlying48 h2 0 _ rfl .i64 (by kernel_rfl) (by kernel_rfl) (by decide) 21 rfl
  have c9 : cs.toList[9]? = some (.int .i64 64) := grid_int Tryd.underlying48 h2 1 _ rfl .i64 (by kernel_rfl) (by kernel_rfl) (by decide) 64 rfl
  have c10 : cs.toList[10]? = some (.int .i64 32) := grid_int Tryd.underlying48 h2 2 _ rfl .i64 (by kernel_rfl) (by kernel_rfl) (by decide) 32 rfl
  have c11 : cs.toList[11]? = some (.bool true) := grid_bool Tryd.underlying48 h2 3 _ rfl (by kernel_rfl) (by kernel_rfl) (by decide) true rfl
  obtain ⟨m3, q3, h3⟩ := grid_row Tryd.underlying66 cellsConv hd 3 _ rfl
  have c12 : cs.toList[12]? = some (.int .i64 21) := grid_int Tryd.underlying48 h3 0 _ rfl .i64 (by kernel_rfl) (by kernel_rfl) (by decide) 21 rfl
  have c13 : cs.toList[13]? = some (.int .i64 64) := grid_int Tryd.underlying48 h3 1 _ rfl .i64 (by kernel_rfl) (by kernel_rfl) (by decide) 64 rfl
  have c14 : cs.toList[14]? = some (.int .i64 32) := grid_int Tryd.underlying48 h3 2 _ rfl .i64 (by kernel_rfl) (by kernel_rfl) (by decide) 32 rfl
  have c15 : cs.toList[15]? = some (.bool false) := grid_bool Tryd.underlying48 h3 3 _ rfl (by kernel_rfl) (by kernel_rfl) (by decide) false rfl
  obtain ⟨m4, q4, h4⟩ := grid_row Tryd.underlying66 cellsConv hd 4 _ rfl
  have c16 : cs.toList[16]? = some (.int .i64 0) := grid_int Tryd.underlying48 h4 0 _ rfl .i64 (by kernel_rfl) (by kernel_rfl) (by decide) 0 rfl
  have c17 : cs.toList[17]? = some (.int .i64 0) := grid_int Tryd.underlying48 h4 1 _ rfl .i64 (by kernel_rfl) (by kernel_rfl) (by decide) 0 rfl
  have c18 : cs.toList[18]? = some (.int .i64 0) := grid_int Tryd.underlying48 h4 2 _ rfl .i64 (by kernel_rfl) (by kernel_rfl) (by decide) 0 rfl
  have c19 : cs.toList[19]? = some (.bool false) := grid_bool Tryd.underlying48 h4 3 _ rfl (by kernel_rfl) (by kernel_rfl) (by decide) false rfl
  obtain ⟨m5, q5, h5⟩ := grid_row Tryd.underlying66 cellsConv hd 5 _ rfl
  have c20 : cs.toList[20]? = some (.int .i64 0) := grid_int Tryd.underlying48 h5 0 _ rfl .i64 (by kernel_rfl) (by kernel_rfl) (by decide) 0 rfl
  have c21 : cs.toList[21]? = some (.int .i64 0) := grid_int Tryd.underlying48 h5 1 _ rfl .i64 (by kernel_rfl) (by kernel_rfl) (by decide) 0 rfl
  have c22 : cs.toList[22]? = some (.int .i64 0) := grid_int Tryd.underlying48 h5 2 _ rfl .i64 (by kernel_rfl) (by kernel_rfl) (by decide) 0 rfl
  have c23 : cs.toList[23]? = some (.bool false) := grid_bool Tryd.underlying48 h5 3 _ rfl (by kernel_rfl) (by kernel_rfl) (by decide) false rfl
  obtain ⟨m6, q6, h6⟩ := grid_row Tryd.underlying66 cellsConv hd 6 _ rfl
  have c24 : cs.toList[24]? = some (.int .i64 21) := grid_int Tryd.underlying48 h6 0 _ rfl .i64 (by kernel_rfl) (by kernel_rfl) (by decide) 21 rfl
  have c25 : cs.toList[25]? = some (.int .i64 32) := grid_int Tryd.underlying48 h6 1 _ rfl .i64 (by kernel_rfl) (by kernel_rfl) (by decide) 32 rfl
  have c26 : cs.toList[26]? = some (.int .i64 64) := grid_int Tryd.underlying48 h6 2 _ rfl .i64 (by kernel_rfl) (by kernel_rfl) (by decide) 64 rfl
  have c27 : cs.toList[27]? = some (.bool true) := grid_bool Tryd.underlying48 h6 3 _ rfl (by kernel_rfl) (by kernel_rfl) (by decide) true rfl
  obtain ⟨m7, q7, h7⟩ := grid_row Tryd.underlying66 cellsConv hd 7 _ rfl
  have c28 : cs.toList[28]? = some (.int .i64 21) := grid_int Tryd.underlying48 h7 0 _ rfl .i64 (by kernel_rfl) (by kernel_rfl) (by decide) 21 rfl
  have c29 : cs.toList[29]? = some (.int .i64 32) := grid_int Tryd.underlying48 h7 1 _ rfl .i64 (by kernel_rfl) (by kernel_rfl) (by decide) 32 rfl
  have c30 : cs.toList[30]? = some (.int .i64 64) := grid_int Tryd.underlying48 h7 2 _ rfl .i64 (by kernel_rfl) (by kernel_rfl) (by decide) 64 rfl
  have c31 : cs.toList[31]? = some (.bool false) := grid_bool Tryd.underlying48 h7 3 _ rfl (by kernel_rfl) (by kernel_rfl) (by decide) false rfl
  obtain ⟨m8, q8, h8⟩ := grid_row Tryd.underlying66 cellsConv hd 8 _ rfl
  have c32 : cs.toList[32]? = some (.int .i64 21) := grid_int Tryd.underlying48 h8 0 _ rfl .i64 (by kernel_rfl) (by kernel_rfl) (by decide) 21 rfl
  have c33 : cs.toList[33]? = some (.int .i64 64) := grid_int Tryd.underlying48 h8 1 _ rfl .i64 (by kernel_rfl) (by kernel_rfl) (by decide) 64 rfl
  have c34 : cs.toList[34]? = some (.int .i64 64) := grid_int Tryd.underlying48 h8 2 _ rfl .i64 (by kernel_rfl) (by kernel_rfl) (by decide) 64 rfl
  have c35 : cs.toList[35]? = some (.bool true) := grid_bool Tryd.underlying48 h8 3 _ rfl (by kernel_rfl) (by kernel_rfl) (by decide) true rfl
  obtain ⟨m9, q9, h9⟩ := grid_row Tryd.underlying66 cellsConv hd 9 _ rfl
  have c36 : cs.toList[36]? = some (.int .i64 21) := grid_int Tryd.underlying48 h9 0 _ rfl .i64 (by kernel_rfl) (by kernel_rfl) (by decide) 21 rfl
  have c37 : cs.toList[37]? = some (.int .i64 64) := grid_int Tryd.underlying48 h9 1 _ rfl .i64 (by kernel_rfl) (by kernel_rfl) (by decide) 64 rfl
  have c38 : cs.toList[38]? = some (.int .i64 64) := grid_int Tryd.underlying48 h9 2 _ rfl .i64 (by kernel_rfl) (by kernel_rfl) (by decide) 64 rfl
  have c39 : cs.toList[39]? = some (.bool false) := grid_bool Tryd.underlying48 h9 3 _ rfl (by kernel_rfl) (by kernel_rfl) (by decide) false rfl
  obtain ⟨m10, q10, h10⟩ := grid_row Tryd.underlying66 cellsConv hd 10 _ rfl
  have c40 : cs.toList[40]? = some (.int .i64 23) := grid_int Tryd.underlying48 h10 0 _ rfl .i64 (by kernel_rfl) (by kernel_rfl) (by decide) 23 rfl
  have c41 : cs.toList[41]? = some (.int .i64 32) := grid_int Tryd.underlying48 h10 1 _ rfl .i64 (by kernel_rfl) (by kernel_rfl) (by decide) 32 rfl
  have c42 : cs.toList[42]? = some (.int .i64 32) := grid_int Tryd.underlying48 h10 2 _ rfl .i64 (by kernel_rfl) (by kernel_rfl) (by decide) 32 rfl
  have c43 : cs.toList[43]? = some (.bool true) := grid_bool Tryd.underlying48 h10 3 _ rfl (by kernel_rfl) (by kernel_rfl) (by decide) true rfl
  obtain ⟨m11, q11, h11⟩ := grid_row Tryd.underlying66 cellsConv hd 11 _ rfl
  have c44 : cs.toList[44]? = some (.int .i64 23) := grid_int Tryd.underlying48 h11 0 _ rfl .i64 (by kernel_rfl) (by kernel_rfl) (by decide) 23 rfl
  have c45 : cs.toList[45]? = some (.int .i64 32) := grid_int Tryd.underlying48 h11 1 _ rfl .i64 (by kernel_rfl) (by kernel_rfl) (by decide) 32 rfl
  have c46 : cs.toList[46]? = some (.int .i64 32) := grid_int Tryd.underlying48 h11 2 _ rfl .i64 (by kernel_rfl) (by kernel_rfl) (by decide) 32 rfl
  have c47 : cs.toList[47]? = some (.bool false) := grid_bool Tryd.underlying48 h11 3 _ rfl (by kernel_rfl) (by kernel_rfl) (by decide) false rfl
  obtain ⟨m12, q12, h12⟩ := grid_row Tryd.underlying66 cellsConv hd 12 _ rfl
  have c48 : cs.toList[48]? = some (.int .i64 23) := grid_int Tryd.underlying48 h12 0 _ rfl .i64 (by kernel_rfl) (by kernel_rfl) (by decide) 23 rfl
  have c49 : cs.toList[49]? = some (.int .i64 64) := grid_int Tryd.underlying48 h12 1 _ rfl .i64 (by kernel_rfl) (by kernel_rfl) (by decide) 64 rfl
  have c50 : cs.toList[50]? = some (.int .i64 32) := grid_int Tryd.underlying48 h12 2 _ rfl .i64 (by kernel_rfl) (by kernel_rfl) (by decide) 32 rfl
  have c51 : cs.toList[51]? = some (.bool true) := grid_bool Tryd.underlying48 h12 3 _ rfl (by kernel_rfl) (by kernel_rfl) (by decide) true rfl
  obtain ⟨m13, q13, h13⟩ := grid_row Tryd.underlying66 cellsConv hd 13 _ rfl
  have c52 : cs.toList[52]? = some (.int .i64 23) := grid_int Tryd.underlying48 h13 0 _ rfl .i64 (by kernel_rfl) (by kernel_rfl) (by decide) 23 rfl
  have c53 : cs.toList[53]? = some (.int .i64 64) := grid_int Tryd.underlying48 h13 1 _ rfl .i64 (by kernel_rfl) (by kernel_rfl) (by decide) 64 rfl
  have c54 : cs.toList[54]? = some (.int .i64 32) := grid_int Tryd.underlying48 h13 2 _ rfl .i64 (by kernel_rfl) (by kernel_rfl) (by decide) 32 rfl
  have c55 : cs.toList[55]? = some (.bool false) := grid_bool Tryd.underlying48 h13 3 _ rfl (by kernel_rfl) (by kernel_rfl) (by decide) false rfl
  obtain ⟨m14, q14, h14⟩ := grid_row Tryd.underlying66 cellsConv hd 14 _ rfl
  have c56 : cs.toList[56]? = some (.int .i64 24) := grid_int Tryd.underlying48 h14 0 _ rfl .i64 (by kernel_rfl) (by kernel_rfl) (by decide) 24 rfl
  have c57 : cs.toList[57]? = some (.int .i64 64) := grid_int Tryd.underlying48 h14 1 _ rfl .i64 (by kernel_rfl) (by kernel_rfl) (by decide) 64 rfl
  have c58 : cs.toList[58]? = some (.int .i64 32) := grid_int Tryd.underlying48 h14 2 _ rfl .i64 (by kernel_rfl) (by kernel_rfl) (by decide) 32 rfl
  have c59 : cs.toList[59]? = some (.bool false) := grid_bool Tryd.underlying48 h14 3 _ rfl (by kernel_rfl) (by kernel_rfl) (by decide) false rfl
  obtain ⟨m15, q15, h15⟩ := grid_row Tryd.underlying66 cellsConv hd 15 _ rfl
  have c60 : cs.toList[60]? = some (.int .i64 23) := grid_int Tryd.underlying48 h15 0 _ rfl .i64 (by kernel_rfl) (by kernel_rfl) (by decide) 23 rfl
  have c61 : cs.toList[61]? = some (.int .i64 32) := grid_int Tryd.underlying48 h15 1 _ rfl .i64 (by kernel_rfl) (by kernel_rfl) (by decide) 32 rfl
  have c62 : cs.toList[62]? = some (.int .i64 64) := grid_int Tryd.underlying48 h15 2 _ rfl .i64 (by kernel_rfl) (by kernel_rfl) (by decide) 64 rfl
  have c63 : cs.toList[63]? = some (.bool true) := grid_bool Tryd.underlying48 h15 3 _ rfl (by kernel_rfl) (by kernel_rfl) (by decide) true rfl
  obtain ⟨m16, q16, h16⟩ := grid_row Tryd.underlying66 cellsConv hd 16 _ rfl
  have c64 : cs.toList[64]? = some (.int .i64 23) := grid_int Tryd.underlying48 h16 0 _ rfl .i64 (by kernel_rfl) (by kernel_rfl) (by decide) 23 rfl
  have c65 : cs.toList[65]? = some (.int .i64 32) := grid_int Tryd.underlying48 h16 1 _ rfl .i64 (by kernel_rfl) (by kernel_rfl) (by decide) 32 rfl
  have c66 : cs.toList[66]? = some (.int .i64 64) := grid_int Tryd.underlying48 h16 2 _ rfl .i64 (by kernel_rfl) (by kernel_rfl) (by decide) 64 rfl
  have c67 : cs.toList[67]? = some (.bool false) := grid_bool Tryd.underlying48 h16 3 _ rfl (by kernel_rfl) (by kernel_rfl) (by decide) false rfl
  obtain ⟨m17, q17, h17⟩ := grid_row Tryd.underlying66 cellsConv hd 17 _ rfl
  have c68 : cs.toList[68]? = some (.int .i64 23) := grid_int Tryd.underlying48 h17 0 _ rfl .i64 (by kernel_rfl) (by kernel_rfl) (by decide) 23 rfl
  have c69 : cs.toList[69]? = some (.int .i64 64) := grid_int Tryd.underlying48 h17 1 _ rfl .i64 (by kernel_rfl) (by kernel_rfl) (by decide) 64 rfl
  have c70 : cs.toList[70]? = some (.int .i64 64) := grid_int Tryd.underlying48 h17 2 _ rfl .i64 (by kernel_rfl) (by kernel_rfl) (by decide) 64 rfl
  have c71 : cs.toList[71]? = some (.bool true) := grid_bool Tryd.underlying48 h17 3 _ rfl (by kernel_rfl) (by kernel_rfl) (by decide) true rfl
  obtain ⟨m18, q18, h18⟩ := grid_row Tryd.underlying66 cellsConv hd 18 _ rfl
  have c72 : cs.toList[72]? = some (.int .i64 23) := grid_int Tryd.underlying48 h18 0 _ rfl .i64 (by kernel_rfl) (by kernel_rfl) (by decide) 23 rfl
  have c73 : cs.toList[73]? = some (.int .i64 64) := grid_int Tryd.underlying48 h18 1 _ rfl .i64 (by kernel_rfl) (by kernel_rfl) (by decide) 64 rfl
  have c74 : cs.toList[74]? = some (.int .i64 64) := grid_int Tryd.underlying48 h18 2 _ rfl .i64 (by kernel_rfl) (by kernel_rfl) (by decide) 64 rfl
  have c75 : cs.toList[75]? = some (.bool false) := grid_bool Tryd.underlying48 h18 3 _ rfl (by kernel_rfl) (by kernel_rfl) (by decide) false rfl
  obtain ⟨m19, q19, h19⟩ := grid_row Tryd.underlying66 cellsConv hd 19 _ rfl
  have c76 : cs.toList[76]? = some (.int .i64 25) := grid_int Tryd.underlying48 h19 0 _ rfl .i64 (by kernel_rfl) (by kernel_rfl) (by decide) 25 rfl
  have c77 : cs.toList[77]? = some (.int .i64 32) := grid_int Tryd.underlying48 h19 1 _ rfl .i64 (by kernel_rfl) (by kernel_rfl) (by decide) 32 rfl
  have c78 : cs.toList[78]? = some (.int .i64 64) := grid_int Tryd.underlying48 h19 2 _ rfl .i64 (by kernel_rfl) (by kernel_rfl) (by decide) 64 rfl
  have c79 : cs.toList[79]? = some (.bool false) := grid_bool Tryd.underlying48 h19 3 _ rfl (by kernel_rfl) (by kernel_rfl) (by decide) false rfl
  obtain ⟨m20, q20, h20⟩ := grid_row Tryd.underlying66 cellsConv hd 20 _ rfl
  have c80 : cs.toList[80]? = some (.int .i64 26) := grid_int Tryd.underlying48 h20 0 _ rfl .i64 (by kernel_rfl) (by kernel_rfl) (by decide) 26 rfl
  have c81 : cs.toList[81]? = some (.int .i64 32) := grid_int Tryd.underlying48 h20 1 _ rfl .i64 (by kernel_rfl) (by kernel_rfl) (by decide) 32 rfl
  have c82 : cs.toList[82]? = some (.int .i64 32) := grid_int Tryd.underlying48 h20 2 _ rfl .i64 (by kernel_rfl) (by kernel_rfl) (by decide) 32 rfl
  have c83 : cs.toList[83]? = some (.bool false) := grid_bool Tryd.underlying48 h20 3 _ rfl (by kernel_rfl) (by kernel_rfl) (by decide) false rfl
  obtain ⟨m21, q21, h21⟩ := grid_row Tryd.underlying66 cellsConv hd 21 _ rfl
  have c84 : cs.toList[84]? = some (.int .i64 26) := grid_int Tryd.underlying48 h21 0 _ rfl .i64 (by kernel_rfl) (by kernel_rfl) (by decide) 26 rfl
  have c85 : cs.toList[85]? = some (.int .i64 64) := grid_int Tryd.underlying48 h21 1 _ rfl .i64 (by kernel_rfl) (by kernel_rfl) (by decide) 64 rfl
  have c86 : cs.toList[86]? = some (.int .i64 64) := grid_int Tryd.underlying48 h21 2 _ rfl .i64 (by kernel_rfl) (by kernel_rfl) (by decide) 64 rfl
  have c87 : cs.toList[87]? = some (.bool false) := grid_bool Tryd.underlying48 h21 3 _ rfl (by kernel_rfl) (by kernel_rfl) (by decide) false rfl
  obtain ⟨m22, q22, h22⟩ := grid_row Tryd.underlying66 cellsConv hd 22 _ rfl
  have c88 : cs.toList[88]? = some (.int .i64 26) := grid_int Tryd.underlying48 h22 0 _ rfl .i64 (by kernel_rfl) (by kernel_rfl) (by decide) 26 rfl
  have c89 : cs.toList[89]? = some (.int .i64 32) := grid_int Tryd.underlying48 h22 1 _ rfl .i64 (by kernel_rfl) (by kernel_rfl) (by decide) 32 rfl
  have c90 : cs.toList[90]? = some (.int .i64 32) := grid_int Tryd.underlying48 h22 2 _ rfl .i64 (by kernel_rfl) (by kernel_rfl) (by decide) 32 rfl
  have c91 : cs.toList[91]? = some (.bool false) := grid_bool Tryd.underlying48 h22 3 _ rfl (by kernel_rfl) (by kernel_rfl) (by decide) false rfl
  obtain ⟨m23, q23, h23⟩ := grid_row Tryd.underlying66 cellsConv hd 23 _ rfl
  have c92 : cs.toList[92]? = some (.int .i64 26) := grid_int Tryd.underlying48 h23 0 _ rfl .i64 (by kernel_rfl) (by kernel_rfl) (by decide) 26 rfl
  have c93 : cs.toList[93]? = some (.int .i64 64) := grid_int Tryd.underlying48 h23 1 _ rfl .i64 (by kernel_rfl) (by kernel_rfl) (by decide) 64 rfl
  have c94 : cs.toList[94]? = some (.int .i64 64) := grid_int Tryd.underlying48 h23 2 _ rfl .i64 (by kernel_rfl) (by kernel_rfl) (by decide) 64 rfl
  have c95 : cs.toList[95]? = some (.bool false) := grid_bool Tryd.underlying48 h23 3 _ rfl (by kernel_rfl) (by kernel_rfl) (by decide) false rfl
  intro j v hv
  match j, hv with
  | 0, hv => exact (hc 0).trans (by rw [← Array.getElem?_toList]; exact c0.trans hv)
  | 1, hv => exact (hc 1).trans (by rw [← Array.getElem?_toList]; exact c1.trans hv)
  | 2, hv => exact (hc 2).trans (by rw [← Array.getElem?_toList]; exact c2.trans hv)
  | 3, hv => exact (hc 3).trans (by rw [← Array.getElem?_toList]; exact c3.trans hv)
  | 4, hv => exact (hc 4).trans (by rw [← Array.getElem?_toList]; exact c4.trans hv)
  | 5, hv => exact (hc 5).trans (by rw [← Array.getElem?_toList]; exact c5.trans hv)
  | 6, hv => exact (hc 6).trans (by rw [← Array.getElem?_toList]; exact c6.trans hv)
  | 7, hv => exact (hc 7).trans (by rw [← Array.getElem?_toList]; exact c7.trans hv)
  | 8, hv => exact (hc 8).trans (by rw [← Array.getElem?_toList]; exact c8.trans hv)
  | 9, hv => exact (hc 9).trans (by rw [← Array.getElem?_toList]; exact c9.trans hv)
  | 10, hv => exact (hc 10).trans (by rw [← Array.getElem?_toList]; exact c10.trans hv)
  | 11, hv => exact (hc 11).trans (by rw [← Array.getElem?_toList]; exact c11.trans hv)
  | 12, hv => exact (hc 12).trans (by rw [← Array.getElem?_toList]; exact c12.trans hv)
  | 13, hv => exact (hc 13).trans (by rw [← Array.getElem?_toList]; exact c13.trans hv)
  | 14, hv => exact (hc 14).trans (by rw [← Array.getElem?_toList]; exact c14.trans hv)
  | 15, hv => exact (hc 15).trans (by rw [← Array.getElem?_toList]; exact c15.trans hv)
  | 16, hv => exact (hc 16).trans (by rw [← Array.getElem?_toList]; exact c16.trans hv)
  | 17, hv => exact (hc 17).trans (by rw [← Array.getElem?_toList]; exact c17.trans hv)
  | 18, hv => exact (hc 18).trans (by rw [← Array.getElem?_toList]; exact c18.trans hv)
  | 19, hv => exact (hc 19).trans (by rw [← Array.getElem?_toList]; exact c19.trans hv)
  | 20, hv => exact (hc 20).trans (by rw [← Array.getElem?_toList]; exact c20.trans hv)
  | 21, hv => exact (hc 21).trans (by rw [← Array.getElem?_toList]; exact c21.trans hv)
  | 22, hv => exact (hc 22).trans (by rw [← Array.getElem?_toList]; exact c22.trans hv)
  | 23, hv => exact (hc 23).trans (by rw [← Array.getElem?_toList]; exact c23.trans hv)
  | 24, hv => exact (hc 24).trans (by rw [← Array.getElem?_toList]; exact c24.trans hv)
  | 25, hv => exact (hc 25).trans (by rw [← Array.getElem?_toList]; exact c25.trans hv)
  | 26, hv => exact (hc 26).trans (by rw [← Array.getElem?_toList]; exact c26.trans hv)
  | 27, hv => exact (hc 27).trans (by rw [← Array.getElem?_toList]; exact c27.trans hv)
  | 28, hv => exact (hc 28).trans (by rw [← Array.getElem?_toList]; exact c28.trans hv)
  | 29, hv => exact (hc 29).trans (by rw [← Array.getElem?_toList]; exact c29.trans hv)
  | 30, hv => exact (hc 30).trans (by rw [← Array.getElem?_toList]; exact c30.trans hv)
  | 31, hv => exact (hc 31).trans (by rw [← Array.getElem?_toList]; exact c31.trans hv)
  | 32, hv => exact (hc 32).trans (by rw [← Array.getElem?_toList]; exact c32.trans hv)
  | 33, hv => exact (hc 33).trans (by rw [← Array.getElem?_toList]; exact c33.trans hv)
  | 34, hv => exact (hc 34).trans (by rw [← Array.getElem?_toList]; exact c34.trans hv)
  | 35, hv => exact (hc 35).trans (by rw [← Array.getElem?_toList]; exact c35.trans hv)
  | 36, hv => exact (hc 36).trans (by rw [← Array.getElem?_toList]; exact c36.trans hv)
  | 37, hv => exact (hc 37).trans (by rw [← Array.getElem?_toList]; exact c37.trans hv)
  | 38, hv => exact (hc 38).trans (by rw [← Array.getElem?_toList]; exact c38.trans hv)
  | 39, hv => exact (hc 39).trans (by rw [← Array.getElem?_toList]; exact c39.trans hv)
  | 40, hv => exact (hc 40).trans (by rw [← Array.getElem?_toList]; exact c40.trans hv)
  | 41, hv => exact (hc 41).trans (by rw [← Array.getElem?_toList]; exact c41.trans hv)
  | 42, hv => exact (hc 42).trans (by rw [← Array.getElem?_toList]; exact c42.trans hv)
  | 43, hv => exact (hc 43).trans (by rw [← Array.getElem?_toList]; exact c43.trans hv)
  | 44, hv => exact (hc 44).trans (by rw [← Array.getElem?_toList]; exact c44.trans hv)
  | 45, hv => exact (hc 45).trans (by rw [← Array.getElem?_toList]; exact c45.trans hv)
  | 46, hv => exact (hc 46).trans (by rw [← Array.getElem?_toList]; exact c46.trans hv)
  | 47, hv => exact (hc 47).trans (by rw [← Array.getElem?_toList]; exact c47.trans hv)
  | 48, hv => exact (hc 48).trans (by rw [← Array.getElem?_toList]; exact c48.trans hv)
  | 49, hv => exact (hc 49).trans (by rw [← Array.getElem?_toList]; exact c49.trans hv)
  | 50, hv => exact (hc 50).trans (by rw [← Array.getElem?_toList]; exact c50.trans hv)
  | 51, hv => exact (hc 51).trans (by rw [← Array.getElem?_toList]; exact c51.trans hv)
  | 52, hv => exact (hc 52).trans (by rw [← Array.getElem?_toList]; exact c52.trans hv)
  | 53, hv => exact (hc 53).trans (by rw [← Array.getElem?_toList]; exact c53.trans hv)
  | 54, hv => exact (hc 54).trans (by rw [← Array.getElem?_toList]; exact c54.trans hv)
  | 55, hv => exact (hc 55).trans (by rw [← Array.getElem?_toList]; exact c55.trans hv)
  | 56, hv => exact (hc 56).trans (by rw [← Array.getElem?_toList]; exact c56.trans hv)
  | 57, hv => exact (hc 57).trans (by rw [← Array.getElem?_toList]; exact c57.trans hv)
  | 58, hv => exact (hc 58).trans (by rw [← Array.getElem?_toList]; exact c58.trans hv)
  | 59, hv => exact (hc 59).trans (by rw [← Array.getElem?_toList]; exact c59.trans hv)
  | 60, hv => exact (hc 60).trans (by rw [← Array.getElem?_toList]; exact c60.trans hv)
  | 61, hv => exact (hc 61).trans (by rw [← Array.getElem?_toList]; exact c61.trans hv)
  | 62, hv => exact (hc 62).trans (by rw [← Array.getElem?_toList]; exact c62.trans hv)
  | 63, hv => exact (hc 63).trans (by rw [← Array.getElem?_toList]; exact c63.trans hv)
  | 64, hv => exact (hc 64).trans (by rw [← Array.getElem?_toList]; exact c64.trans hv)
  | 65, hv => exact (hc 65).trans (by rw [← Array.getElem?_toList]; exact c65.trans hv)
  | 66, hv => exact (hc 66).trans (by rw [← Array.getElem?_toList]; exact c66.trans hv)
  | 67, hv => exact (hc 67).trans (by rw [← Array.getElem?_toList]; exact c67.trans hv)
  | 68, hv => exact (hc 68).trans (by rw [← Array.getElem?_toList]; exact c68.trans hv)
  | 69, hv => exact (hc 69).trans (by rw [← Array.getElem?_toList]; exact c69.trans hv)
  | 70, hv => exact (hc 70).trans (by rw [← Array.getElem?_toList]; exact c70.trans hv)
  | 71, hv => exact (hc 71).trans (by rw [← Array.getElem?_toList]; exact c71.trans hv)
  | 72, hv => exact (hc 72).trans (by rw [← Array.getElem?_toList]; exact c72.trans hv)
  | 73, hv => exact (hc 73).trans (by rw [← Array.getElem?_toList]; exact c73.trans hv)
  | 74, hv => exact (hc 74).trans (by rw [← Array.getElem?_toList]; exact c74.trans hv)
  | 75, hv => exact (hc 75).trans (by rw [← Array.getElem?_toList]; exact c75.trans hv)
  | 76, hv => exact (hc 76).trans (by rw [← Array.getElem?_toList]; exact c76.trans hv)
  | 77, hv => exact (hc 77).trans (by rw [← Array.getElem?_toList]; exact c77.trans hv)
  | 78, hv => exact (hc 78).trans (by rw [← Array.getElem?_toList]; exact c78.trans hv)
  | 79, hv => exact (hc 79).trans (by rw [← Array.getElem?_toList]; exact c79.trans hv)
  | 80, hv => exact (hc 80).trans (by rw [← Array.getElem?_toList]; exact c80.trans hv)
  | 81, hv => exact (hc 81).trans (by rw [← Array.getElem?_toList]; exact c81.trans hv)
  | 82, hv => exact (hc 82).trans (by rw [← Array.getElem?_toList]; exact c82.trans hv)
  | 83, hv => exact (hc 83).trans (by rw [← Array.getElem?_toList]; exact c83.trans hv)
  | 84, hv => exact (hc 84).trans (by rw [← Array.getElem?_toList]; exact c84.trans hv)
  | 85, hv => exact (hc 85).trans (by rw [← Array.getElem?_toList]; exact c85.trans hv)
  | 86, hv => exact (hc 86).trans (by rw [← Array.getElem?_toList]; exact c86.trans hv)
  | 87, hv => exact (hc 87).trans (by rw [← Array.getElem?_toList]; exact c87.trans hv)
  | 88, hv => exact (hc 88).trans (by rw [← Array.getElem?_toList]; exact c88.trans hv)
  | 89, hv => exact (hc 89).trans (by rw [← Array.getElem?_toList]; exact c89.trans hv)
  | 90, hv => exact (hc 90).trans (by rw [← Array.getElem?_toList]; exact c90.trans hv)
  | 91, hv => exact (hc 91).trans (by rw [← Array.getElem?_toList]; exact c91.trans hv)
  | 92, hv => exact (hc 92).trans (by rw [← Array.getElem?_toList]; exact c92.trans hv)
  | 93, hv => exact (hc 93).trans (by rw [← Array.getElem?_toList]; exact c93.trans hv)
  | 94, hv => exact (hc 94).trans (by rw [← Array.getElem?_toList]; exact c94.trans hv)
  | 95, hv => exact (hc 95).trans (by rw [← Array.getElem?_toList]; exact c95.trans hv)
  | n + 96, hv => exact absurd hv (by simp [CV])
end Go.Proofs.YtjkebimmddlccabDoor
