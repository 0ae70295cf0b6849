/-
  The contracts of all readers, of the program and of the document, at whatever places; no statement is proved here.
-/
import Derived.Test.YtohapnninjdlfaaGreatDoorReadB
import Derived.Test.YtohapnninjdlfaaGreatDoorReadF
namespace Go.Proofs.YtohapnninjdlfaaGreatDoor
open Go.RowKit
set_option linter.unusedVariables false

/- Bytes are bytes. -/
def Byt (l : List Int) : Prop := ∀ j, 0 ≤ l.getD j 0 ∧ l.getD j 0 ≤ 255
theorem split_in {x y : Int} {n : Nat} (h : 0 ≤ x ∧ x ≤ y ∧ y ≤ n) : ∃ a e : Nat, x = a ∧ y = e ∧ a ≤ e ∧ e ≤ n := by
  obtain ⟨h0, h1, h2⟩ := h
  exact ⟨x.toNat, y.toNat, by omega, by omega, by omega, by omega⟩
theorem loop_pair {α β γ : Type} {r : α × β × γ} {a : α} {b : β} {c : γ} (h : r = (a, b, c)) : r.1 = a ∧ r.2.1 = b ∧ r.2.2 = c := by subst h; exact ⟨rfl, rfl, rfl⟩

set_option maxRecDepth 100000 in
theorem readU32_no (ad : Option Addr) (len cap : Nat) (x y : Int) (w : World) (h : ¬ (0 ≤ x ∧ x ≤ y ∧ y ≤ len)) :
    Calls Tryz.prog 97 #[.slice ad len cap, .int .i64 x, .int .i64 y, .int .i64 32] w fun en w' =>
      en = .returned (.tuple #[.int .u32 0, .int .i64 0, .int .i64 1]) ∧ w' = w := by
  have c1 := inside_no ad len cap x y w h
  clear h
  go_enter Tryz.func97, Tryz.ntmps97
  go_wp2_with fail
  refine c1.mono ?_
  rintro en w' ⟨rfl, rfl⟩
  clear c1
  go_wp2_with fail
  go_ret3
  exact ⟨rfl, rfl⟩
set_option maxRecDepth 100000 in
theorem readU32_none (ad : Option Addr) (cap : Nat) (w : World) :
    Calls Tryz.prog 97 #[.slice ad 0 cap, .int .i64 0, .int .i64 0, .int .i64 32] w fun en w' =>
      en = .returned (.tuple #[.int .u32 0, .int .i64 0, .int .i64 3]) ∧ w' = w := by
  have hsg : decide (bits .xor .u32 IntKind.u32.max 0 < 0) = false := by decide
  go_enter Tryz.func97, Tryz.ntmps97
  go_wp2_with fail
  refine (inside_yes ad 0 cap 0 0 _ (by omega) (by omega) (by omega)).mono ?_
  rintro en w' ⟨rfl, rfl⟩
  go_wp2_with fail
  refine wp_loop_rounds 1 ?_
  rw [rounds_succ]
  go_wp2
  go_ret3
  exact ⟨rfl, rfl⟩
theorem readU32_any (v : Value) (l : List Int) (x y : Int) (w : World) (hR : Reads w v l) (hb : Byt l) (hlen : l.length ≤ 140737488351232) :
    Calls Tryz.prog 97 #[v, .int .i64 x, .int .i64 y, .int .i64 32] w fun en w' => en = .returned (.tuple #[.int .u32 ((rd 32 false l x y).1 % 4294967296), .int .i64 (rd 32 false l x y).2.1, .int .i64 (rd 32 false l x y).2.2]) ∧ w' = w := by
  obtain ⟨ad, cap, rfl, hlc, hm, _, h⟩ := hR
  by_cases hin : 0 ≤ x ∧ x ≤ y ∧ y ≤ (l.length : Int)
  · obtain ⟨a, e, rfl, rfl, hae, he⟩ := split_in hin
    rcases h with rfl | ⟨b, off, rfl, hc⟩
    · simp only [List.length_nil] at he
      obtain rfl : e = 0 := by omega
      obtain rfl : a = 0 := by omega
      refine (readU32_none ad cap w).mono ?_
      rintro en w' ⟨rfl, rfl⟩
      have hrd : rd 32 false [] ((0 : Nat) : Int) ((0 : Nat) : Int) = (0, ((0 : Nat) : Int) + 0, 3) := rd_in (by omega) (by simp) rfl
      obtain ⟨h1, h2, h3⟩ := loop_pair hrd
      exact ⟨ret_3 (by rw [h1]; exact rfl) (by rw [h2]; rfl) (by rw [h3]), rfl⟩
    · refine (readU32_in b off cap l a e w hlen hae he hc hb).mono ?_
      rintro en w' ⟨n, p, q, hs, rfl, rfl⟩
      have hrd : rd 32 false l (a : Int) (e : Int) = (n, (a : Int) + p, q) := rd_in hae he hs
      obtain ⟨h1, h2, h3⟩ := loop_pair hrd
      exact ⟨ret_3 (by rw [h1]) (by rw [h2]) (by rw [h3]), rfl⟩
  · refine (readU32_no ad l.length cap x y w hin).mono ?_
    rintro en w' ⟨rfl, rfl⟩
    obtain ⟨h1, h2, h3⟩ := loop_pair (rd_out (b := 32) (sg := false) hin)
    exact ⟨ret_3 (by rw [h1]; exact rfl) (by rw [h2]) (by rw [h3]), rfl⟩
set_option maxRecDepth 100000 in
theorem u32_any (v : Value) (l : List Int) (x y : Int) (w : World) (hR : Reads w v l) (hb : Byt l) (hlen : l.length ≤ 140737488351232) :
    Calls Tryz.prog 67 #[v, .int .i64 x, .int .i64 y] w fun en w' => en = .returned (.tuple #[.int .u32 ((rd 32 false l x y).1 % 4294967296), .int .i64 (rd 32 false l x y).2.1, .int .i64 (rd 32 false l x y).2.2]) ∧ w' = w := by
  have c1 := readU32_any v l x y w hR hb hlen
  obtain ⟨ad, cap, rfl⟩ := hR.len
  clear hR hb
  generalize rd 32 false l x y = r at *
  go_enter Tryz.func67, Tryz.ntmps67
  go_wp2_with fail
  refine c1.mono ?_
  rintro en w' ⟨rfl, rfl⟩
  clear c1
  go_wp2_with fail
  go_ret3
  exact ⟨rfl, rfl⟩

set_option maxRecDepth 100000 in
theorem readU64_no (ad : Option Addr) (len cap : Nat) (x y : Int) (w : World) (h : ¬ (0 ≤ x ∧ x ≤ y ∧ y ≤ len)) :
    Calls Tryz.prog 104 #[.slice ad len cap, .int .i64 x, .int .i64 y, .int .i64 64] w fun en w' =>
      en = .returned (.tuple #[.int .u64 0, .int .i64 0, .int .i64 1]) ∧ w' = w := by
  have c1 := inside_no ad len cap x y w h
  clear h
  go_enter Tryz.func104, Tryz.ntmps104
  go_wp2_with fail
  refine c1.mono ?_
  rintro en w' ⟨rfl, rfl⟩
  clear c1
  go_wp2_with fail
  go_ret3
  exact ⟨rfl, rfl⟩
set_option maxRecDepth 100000 in
theorem readU64_none (ad : Option Addr) (cap : Nat) (w : World) :
    Calls Tryz.prog 104 #[.slice ad 0 cap, .int .i64 0, .int .i64 0, .int .i64 64] w fun en w' =>
      en = .returned (.tuple #[.int .u64 0, .int .i64 0, .int .i64 3]) ∧ w' = w := by
  have hsg : decide (bits .xor .u64 IntKind.u64.max 0 < 0) = false := by decide
  go_enter Tryz.func104, Tryz.ntmps104
  go_wp2_with fail
  refine (inside_yes ad 0 cap 0 0 _ (by omega) (by omega) (by omega)).mono ?_
  rintro en w' ⟨rfl, rfl⟩
  go_wp2_with fail
  refine wp_loop_rounds 1 ?_
  rw [rounds_succ]
  go_wp2
  go_ret3
  exact ⟨rfl, rfl⟩
theorem readU64_any (v : Value) (l : List Int) (x y : Int) (w : World) (hR : Reads w v l) (hb : Byt l) (hlen : l.length ≤ 140737488351232) :
    Calls Tryz.prog 104 #[v, .int .i64 x, .int .i64 y, .int .i64 64] w fun en w' => en = .returned (.tuple #[.int .u64 ((rd 64 false l x y).1), .int .i64 (rd 64 false l x y).2.1, .int .i64 (rd 64 false l x y).2.2]) ∧ w' = w := by
  obtain ⟨ad, cap, rfl, hlc, hm, _, h⟩ := hR
  by_cases hin : 0 ≤ x ∧ x ≤ y ∧ y ≤ (l.length : Int)
  · obtain ⟨a, e, rfl, rfl, hae, he⟩ := split_in hin
    rcases h with rfl | ⟨b, off, rfl, hc⟩
    · simp only [List.length_nil] at he
      obtain rfl : e = 0 := by omega
      obtain rfl : a = 0 := by omega
      refine (readU64_none ad cap w).mono ?_
      rintro en w' ⟨rfl, rfl⟩
      have hrd : rd 64 false [] ((0 : Nat) : Int) ((0 : Nat) : Int) = (0, ((0 : Nat) : Int) + 0, 3) := rd_in (by omega) (by simp) rfl
      obtain ⟨h1, h2, h3⟩ := loop_pair hrd
      exact ⟨ret_3 (by rw [h1]) (by rw [h2]; rfl) (by rw [h3]), rfl⟩
    · refine (readU64_in b off cap l a e w hlen hae he hc hb).mono ?_
      rintro en w' ⟨n, p, q, hs, rfl, rfl⟩
      have hrd : rd 64 false l (a : Int) (e : Int) = (n, (a : Int) + p, q) := rd_in hae he hs
      obtain ⟨h1, h2, h3⟩ := loop_pair hrd
      exact ⟨ret_3 (by rw [h1]) (by rw [h2]) (by rw [h3]), rfl⟩
  · refine (readU64_no ad l.length cap x y w hin).mono ?_
    rintro en w' ⟨rfl, rfl⟩
    obtain ⟨h1, h2, h3⟩ := loop_pair (rd_out (b := 64) (sg := false) hin)
    exact ⟨ret_3 (by rw [h1]) (by rw [h2]) (by rw [h3]), rfl⟩
set_option maxRecDepth 100000 in
theorem u64_any (v : Value) (l : List Int) (x y : Int) (w : World) (hR : Reads w v l) (hb : Byt l) (hlen : l.length ≤ 140737488351232) :
    Calls Tryz.prog 76 #[v, .int .i64 x, .int .i64 y] w fun en w' => en = .returned (.tuple #[.int .u64 ((rd 64 false l x y).1), .int .i64 (rd 64 false l x y).2.1, .int .i64 (rd 64 false l x y).2.2]) ∧ w' = w := by
  have c1 := readU64_any v l x y w hR hb hlen
  obtain ⟨ad, cap, rfl⟩ := hR.len
  clear hR hb
  generalize rd 64 false l x y = r at *
  go_enter Tryz.func76, Tryz.ntmps76
  go_wp2_with fail
  refine c1.mono ?_
  rintro en w' ⟨rfl, rfl⟩
  clear c1
  go_wp2_with fail
  go_ret3
  exact ⟨rfl, rfl⟩

set_option maxRecDepth 100000 in
theorem readS32_no (ad : Option Addr) (len cap : Nat) (x y : Int) (w : World) (h : ¬ (0 ≤ x ∧ x ≤ y ∧ y ≤ len)) :
    Calls Tryz.prog 107 #[.slice ad len cap, .int .i64 x, .int .i64 y, .int .i64 32] w fun en w' =>
      en = .returned (.tuple #[.int .i32 0, .int .i64 0, .int .i64 1]) ∧ w' = w := by
  have c1 := inside_no ad len cap x y w h
  clear h
  go_enter Tryz.func107, Tryz.ntmps107
  go_wp2_with fail
  refine c1.mono ?_
  rintro en w' ⟨rfl, rfl⟩
  clear c1
  go_wp2_with fail
  go_ret3
  exact ⟨rfl, rfl⟩
set_option maxRecDepth 100000 in
theorem readS32_none (ad : Option Addr) (cap : Nat) (w : World) :
    Calls Tryz.prog 107 #[.slice ad 0 cap, .int .i64 0, .int .i64 0, .int .i64 32] w fun en w' =>
      en = .returned (.tuple #[.int .i32 0, .int .i64 0, .int .i64 3]) ∧ w' = w := by
  go_enter Tryz.func107, Tryz.ntmps107
  go_wp2_with fail
  refine (inside_yes ad 0 cap 0 0 _ (by omega) (by omega) (by omega)).mono ?_
  rintro en w' ⟨rfl, rfl⟩
  go_wp2_with fail
  refine wp_loop_rounds 1 ?_
  rw [rounds_succ]
  go_wp2
  go_ret3
  exact ⟨rfl, rfl⟩
theorem readS32_any (v : Value) (l : List Int) (x y : Int) (w : World) (hR : Reads w v l) (hb : Byt l) (hlen : l.length ≤ 140737488351232) :
    Calls Tryz.prog 107 #[v, .int .i64 x, .int .i64 y, .int .i64 32] w fun en w' => en = .returned (.tuple #[.int .i32 (wrap32 (rd 32 true l x y).1), .int .i64 (rd 32 true l x y).2.1, .int .i64 (rd 32 true l x y).2.2]) ∧ w' = w := by
  obtain ⟨ad, cap, rfl, hlc, hm, _, h⟩ := hR
  by_cases hin : 0 ≤ x ∧ x ≤ y ∧ y ≤ (l.length : Int)
  · obtain ⟨a, e, rfl, rfl, hae, he⟩ := split_in hin
    rcases h with rfl | ⟨b, off, rfl, hc⟩
    · simp only [List.length_nil] at he
      obtain rfl : e = 0 := by omega
      obtain rfl : a = 0 := by omega
      refine (readS32_none ad cap w).mono ?_
      rintro en w' ⟨rfl, rfl⟩
      have hrd : rd 32 true [] ((0 : Nat) : Int) ((0 : Nat) : Int) = (0, ((0 : Nat) : Int) + 0, 3) := rd_in (by omega) (by simp) rfl
      obtain ⟨h1, h2, h3⟩ := loop_pair hrd
      exact ⟨ret_3 (by rw [h1]; exact (by simp [wrap32])) (by rw [h2]; rfl) (by rw [h3]), rfl⟩
    · refine (readS32_in b off cap l a e w hlen hae he hc hb).mono ?_
      rintro en w' ⟨n, p, q, hs, rfl, rfl⟩
      have hrd : rd 32 true l (a : Int) (e : Int) = (n, (a : Int) + p, q) := rd_in hae he hs
      obtain ⟨h1, h2, h3⟩ := loop_pair hrd
      exact ⟨ret_3 (by rw [h1]) (by rw [h2]) (by rw [h3]), rfl⟩
  · refine (readS32_no ad l.length cap x y w hin).mono ?_
    rintro en w' ⟨rfl, rfl⟩
    obtain ⟨h1, h2, h3⟩ := loop_pair (rd_out (b := 32) (sg := true) hin)
    exact ⟨ret_3 (by rw [h1]; exact (by simp [wrap32])) (by rw [h2]) (by rw [h3]), rfl⟩
set_option maxRecDepth 100000 in
theorem s32_any (v : Value) (l : List Int) (x y : Int) (w : World) (hR : Reads w v l) (hb : Byt l) (hlen : l.length ≤ 140737488351232) :
    Calls Tryz.prog 78 #[v, .int .i64 x, .int .i64 y] w fun en w' => en = .returned (.tuple #[.int .i32 (wrap32 (rd 32 true l x y).1), .int .i64 (rd 32 true l x y).2.1, .int .i64 (rd 32 true l x y).2.2]) ∧ w' = w := by
  have c1 := readS32_any v l x y w hR hb hlen
  obtain ⟨ad, cap, rfl⟩ := hR.len
  clear hR hb
  generalize rd 32 true l x y = r at *
  go_enter Tryz.func78, Tryz.ntmps78
  go_wp2_with fail
  refine c1.mono ?_
  rintro en w' ⟨rfl, rfl⟩
  clear c1
  go_wp2_with fail
  go_ret3
  exact ⟨rfl, rfl⟩

set_option maxRecDepth 100000 in
theorem readS33_no (ad : Option Addr) (len cap : Nat) (x y : Int) (w : World) (h : ¬ (0 ≤ x ∧ x ≤ y ∧ y ≤ len)) :
    Calls Tryz.prog 110 #[.slice ad len cap, .int .i64 x, .int .i64 y, .int .i64 33] w fun en w' =>
      en = .returned (.tuple #[.int .i64 0, .int .i64 0, .int .i64 1]) ∧ w' = w := by
  have c1 := inside_no ad len cap x y w h
  clear h
  go_enter Tryz.func110, Tryz.ntmps110
  go_wp2_with fail
  refine c1.mono ?_
  rintro en w' ⟨rfl, rfl⟩
  clear c1
  go_wp2_with fail
  go_ret3
  exact ⟨rfl, rfl⟩
set_option maxRecDepth 100000 in
theorem readS33_none (ad : Option Addr) (cap : Nat) (w : World) :
    Calls Tryz.prog 110 #[.slice ad 0 cap, .int .i64 0, .int .i64 0, .int .i64 33] w fun en w' =>
      en = .returned (.tuple #[.int .i64 0, .int .i64 0, .int .i64 3]) ∧ w' = w := by
  go_enter Tryz.func110, Tryz.ntmps110
  go_wp2_with fail
  refine (inside_yes ad 0 cap 0 0 _ (by omega) (by omega) (by omega)).mono ?_
  rintro en w' ⟨rfl, rfl⟩
  go_wp2_with fail
  refine wp_loop_rounds 1 ?_
  rw [rounds_succ]
  go_wp2
  go_ret3
  exact ⟨rfl, rfl⟩
theorem readS33_any (v : Value) (l : List Int) (x y : Int) (w : World) (hR : Reads w v l) (hb : Byt l) (hlen : l.length ≤ 140737488351232) :
    Calls Tryz.prog 110 #[v, .int .i64 x, .int .i64 y, .int .i64 33] w fun en w' => en = .returned (.tuple #[.int .i64 (wrap64 (rd 33 true l x y).1), .int .i64 (rd 33 true l x y).2.1, .int .i64 (rd 33 true l x y).2.2]) ∧ w' = w := by
  obtain ⟨ad, cap, rfl, hlc, hm, _, h⟩ := hR
  by_cases hin : 0 ≤ x ∧ x ≤ y ∧ y ≤ (l.length : Int)
  · obtain ⟨a, e, rfl, rfl, hae, he⟩ := split_in hin
    rcases h with rfl | ⟨b, off, rfl, hc⟩
    · simp only [List.length_nil] at he
      obtain rfl : e = 0 := by omega
      obtain rfl : a = 0 := by omega
      refine (readS33_none ad cap w).mono ?_
      rintro en w' ⟨rfl, rfl⟩
      have hrd : rd 33 true [] ((0 : Nat) : Int) ((0 : Nat) : Int) = (0, ((0 : Nat) : Int) + 0, 3) := rd_in (by omega) (by simp) rfl
      obtain ⟨h1, h2, h3⟩ := loop_pair hrd
      exact ⟨ret_3 (by rw [h1]; exact (by simp [wrap64])) (by rw [h2]; rfl) (by rw [h3]), rfl⟩
    · refine (readS33_in b off cap l a e w hlen hae he hc hb).mono ?_
      rintro en w' ⟨n, p, q, hs, rfl, rfl⟩
      have hrd : rd 33 true l (a : Int) (e : Int) = (n, (a : Int) + p, q) := rd_in hae he hs
      obtain ⟨h1, h2, h3⟩ := loop_pair hrd
      exact ⟨ret_3 (by rw [h1]) (by rw [h2]) (by rw [h3]), rfl⟩
  · refine (readS33_no ad l.length cap x y w hin).mono ?_
    rintro en w' ⟨rfl, rfl⟩
    obtain ⟨h1, h2, h3⟩ := loop_pair (rd_out (b := 33) (sg := true) hin)
    exact ⟨ret_3 (by rw [h1]; exact (by simp [wrap64])) (by rw [h2]) (by rw [h3]), rfl⟩
set_option maxRecDepth 100000 in
theorem s33_any (v : Value) (l : List Int) (x y : Int) (w : World) (hR : Reads w v l) (hb : Byt l) (hlen : l.length ≤ 140737488351232) :
    Calls Tryz.prog 128 #[v, .int .i64 x, .int .i64 y] w fun en w' => en = .returned (.tuple #[.int .i64 (wrap64 (rd 33 true l x y).1), .int .i64 (rd 33 true l x y).2.1, .int .i64 (rd 33 true l x y).2.2]) ∧ w' = w := by
  have c1 := readS33_any v l x y w hR hb hlen
  obtain ⟨ad, cap, rfl⟩ := hR.len
  clear hR hb
  generalize rd 33 true l x y = r at *
  go_enter Tryz.func128, Tryz.ntmps128
  go_wp2_with fail
  refine c1.mono ?_
  rintro en w' ⟨rfl, rfl⟩
  clear c1
  go_wp2_with fail
  go_ret3
  exact ⟨rfl, rfl⟩

set_option maxRecDepth 100000 in
theorem readS64_no (ad : Option Addr) (len cap : Nat) (x y : Int) (w : World) (h : ¬ (0 ≤ x ∧ x ≤ y ∧ y ≤ len)) :
    Calls Tryz.prog 110 #[.slice ad len cap, .int .i64 x, .int .i64 y, .int .i64 64] w fun en w' =>
      en = .returned (.tuple #[.int .i64 0, .int .i64 0, .int .i64 1]) ∧ w' = w := by
  have c1 := inside_no ad len cap x y w h
  clear h
  go_enter Tryz.func110, Tryz.ntmps110
  go_wp2_with fail
  refine c1.mono ?_
  rintro en w' ⟨rfl, rfl⟩
  clear c1
  go_wp2_with fail
  go_ret3
  exact ⟨rfl, rfl⟩
set_option maxRecDepth 100000 in
theorem readS64_none (ad : Option Addr) (cap : Nat) (w : World) :
    Calls Tryz.prog 110 #[.slice ad 0 cap, .int .i64 0, .int .i64 0, .int .i64 64] w fun en w' =>
      en = .returned (.tuple #[.int .i64 0, .int .i64 0, .int .i64 3]) ∧ w' = w := by
  go_enter Tryz.func110, Tryz.ntmps110
  go_wp2_with fail
  refine (inside_yes ad 0 cap 0 0 _ (by omega) (by omega) (by omega)).mono ?_
  rintro en w' ⟨rfl, rfl⟩
  go_wp2_with fail
  refine wp_loop_rounds 1 ?_
  rw [rounds_succ]
  go_wp2
  go_ret3
  exact ⟨rfl, rfl⟩
theorem readS64_any (v : Value) (l : List Int) (x y : Int) (w : World) (hR : Reads w v l) (hb : Byt l) (hlen : l.length ≤ 140737488351232) :
    Calls Tryz.prog 110 #[v, .int .i64 x, .int .i64 y, .int .i64 64] w fun en w' => en = .returned (.tuple #[.int .i64 (wrap64 (rd 64 true l x y).1), .int .i64 (rd 64 true l x y).2.1, .int .i64 (rd 64 true l x y).2.2]) ∧ w' = w := by
  obtain ⟨ad, cap, rfl, hlc, hm, _, h⟩ := hR
  by_cases hin : 0 ≤ x ∧ x ≤ y ∧ y ≤ (l.length : Int)
  · obtain ⟨a, e, rfl, rfl, hae, he⟩ := split_in hin
    rcases h with rfl | ⟨b, off, rfl, hc⟩
    · simp only [List.length_nil] at he
      obtain rfl : e = 0 := by omega
      obtain rfl : a = 0 := by omega
      refine (readS64_none ad cap w).mono ?_
      rintro en w' ⟨rfl, rfl⟩
      have hrd : rd 64 true [] ((0 : Nat) : Int) ((0 : Nat) : Int) = (0, ((0 : Nat) : Int) + 0, 3) := rd_in (by omega) (by simp) rfl
      obtain ⟨h1, h2, h3⟩ := loop_pair hrd
      exact ⟨ret_3 (by rw [h1]; exact (by simp [wrap64])) (by rw [h2]; rfl) (by rw [h3]), rfl⟩
    · refine (readS64_in b off cap l a e w hlen hae he hc hb).mono ?_
      rintro en w' ⟨n, p, q, hs, rfl, rfl⟩
      have hrd : rd 64 true l (a : Int) (e : Int) = (n, (a : Int) + p, q) := rd_in hae he hs
      obtain ⟨h1, h2, h3⟩ := loop_pair hrd
      exact ⟨ret_3 (by rw [h1]) (by rw [h2]) (by rw [h3]), rfl⟩
  · refine (readS64_no ad l.length cap x y w hin).mono ?_
    rintro en w' ⟨rfl, rfl⟩
    obtain ⟨h1, h2, h3⟩ := loop_pair (rd_out (b := 64) (sg := true) hin)
    exact ⟨ret_3 (by rw [h1]; exact (by simp [wrap64])) (by rw [h2]) (by rw [h3]), rfl⟩
set_option maxRecDepth 100000 in
theorem s64_any (v : Value) (l : List Int) (x y : Int) (w : World) (hR : Reads w v l) (hb : Byt l) (hlen : l.length ≤ 140737488351232) :
    Calls Tryz.prog 80 #[v, .int .i64 x, .int .i64 y] w fun en w' => en = .returned (.tuple #[.int .i64 (wrap64 (rd 64 true l x y).1), .int .i64 (rd 64 true l x y).2.1, .int .i64 (rd 64 true l x y).2.2]) ∧ w' = w := by
  have c1 := readS64_any v l x y w hR hb hlen
  obtain ⟨ad, cap, rfl⟩ := hR.len
  clear hR hb
  generalize rd 64 true l x y = r at *
  go_enter Tryz.func80, Tryz.ntmps80
  go_wp2_with fail
  refine c1.mono ?_
  rintro en w' ⟨rfl, rfl⟩
  clear c1
  go_wp2_with fail
  go_ret3
  exact ⟨rfl, rfl⟩

set_option maxRecDepth 100000 in
theorem num32u_no (ad : Option Addr) (len cap : Nat) (x y : Int) (w : World) (h : ¬ (0 ≤ x ∧ x ≤ y ∧ y ≤ len)) :
    Calls Tryz.prog 58 #[.slice ad len cap, .int .i64 x, .int .i64 y, .int .i64 32, .bool false] w fun en w' =>
      en = .returned (.tuple #[.int .u64 0, .int .i64 0, .int .i64 1]) ∧ w' = w := by
  have c1 := reads_no ad len cap x y w h
  clear h
  go_enter Tryz.func58, Tryz.ntmps58
  go_wp2_with fail
  refine c1.mono ?_
  rintro en w' ⟨rfl, rfl⟩
  clear c1
  go_wp2_with fail
  go_ret3
  exact ⟨rfl, rfl⟩
set_option maxRecDepth 100000 in
theorem num32u_none (ad : Option Addr) (cap : Nat) (w : World) :
    Calls Tryz.prog 58 #[.slice ad 0 cap, .int .i64 0, .int .i64 0, .int .i64 32, .bool false] w fun en w' =>
      en = .returned (.tuple #[.int .u64 0, .int .i64 0, .int .i64 3]) ∧ w' = w := by
  go_enter Tryz.func58, Tryz.ntmps58
  go_wp2_with fail
  refine (reads_yes ad 0 cap 0 0 _ (by omega) (by omega) (by omega)).mono ?_
  rintro en w' ⟨rfl, rfl⟩
  go_wp2_with fail
  refine wp_loop_rounds 1 ?_
  rw [rounds_succ]
  go_wp2
  go_ret3
  exact ⟨rfl, rfl⟩
theorem num32u_any (v : Value) (l : List Int) (x y : Int) (w : World) (hR : Reads w v l) (hb : Byt l) (hlen : l.length ≤ 140737488351232) :
    Calls Tryz.prog 58 #[v, .int .i64 x, .int .i64 y, .int .i64 32, .bool false] w fun en w' => en = .returned (.tuple #[.int .u64 ((rd 32 false l x y).1), .int .i64 (rd 32 false l x y).2.1, .int .i64 (rd 32 false l x y).2.2]) ∧ w' = w := by
  obtain ⟨ad, cap, rfl, hlc, hm, _, h⟩ := hR
  by_cases hin : 0 ≤ x ∧ x ≤ y ∧ y ≤ (l.length : Int)
  · obtain ⟨a, e, rfl, rfl, hae, he⟩ := split_in hin
    rcases h with rfl | ⟨b, off, rfl, hc⟩
    · simp only [List.length_nil] at he
      obtain rfl : e = 0 := by omega
      obtain rfl : a = 0 := by omega
      refine (num32u_none ad cap w).mono ?_
      rintro en w' ⟨rfl, rfl⟩
      have hrd : rd 32 false [] ((0 : Nat) : Int) ((0 : Nat) : Int) = (0, ((0 : Nat) : Int) + 0, 3) := rd_in (by omega) (by simp) rfl
      obtain ⟨h1, h2, h3⟩ := loop_pair hrd
      exact ⟨ret_3 (by rw [h1]) (by rw [h2]; rfl) (by rw [h3]), rfl⟩
    · refine (num32u_in b off cap l a e w hlen hae he hc hb).mono ?_
      rintro en w' ⟨n, p, q, hs, rfl, rfl⟩
      have hrd : rd 32 false l (a : Int) (e : Int) = (n, (a : Int) + p, q) := rd_in hae he hs
      obtain ⟨h1, h2, h3⟩ := loop_pair hrd
      exact ⟨ret_3 (by rw [h1]) (by rw [h2]) (by rw [h3]), rfl⟩
  · refine (num32u_no ad l.length cap x y w hin).mono ?_
    rintro en w' ⟨rfl, rfl⟩
    obtain ⟨h1, h2, h3⟩ := loop_pair (rd_out (b := 32) (sg := false) hin)
    exact ⟨ret_3 (by rw [h1]) (by rw [h2]) (by rw [h3]), rfl⟩

set_option maxRecDepth 100000 in
theorem num64u_no (ad : Option Addr) (len cap : Nat) (x y : Int) (w : World) (h : ¬ (0 ≤ x ∧ x ≤ y ∧ y ≤ len)) :
    Calls Tryz.prog 58 #[.slice ad len cap, .int .i64 x, .int .i64 y, .int .i64 64, .bool false] w fun en w' =>
      en = .returned (.tuple #[.int .u64 0, .int .i64 0, .int .i64 1]) ∧ w' = w := by
  have c1 := reads_no ad len cap x y w h
  clear h
  go_enter Tryz.func58, Tryz.ntmps58
  go_wp2_with fail
  refine c1.mono ?_
  rintro en w' ⟨rfl, rfl⟩
  clear c1
  go_wp2_with fail
  go_ret3
  exact ⟨rfl, rfl⟩
set_option maxRecDepth 100000 in
theorem num64u_none (ad : Option Addr) (cap : Nat) (w : World) :
    Calls Tryz.prog 58 #[.slice ad 0 cap, .int .i64 0, .int .i64 0, .int .i64 64, .bool false] w fun en w' =>
      en = .returned (.tuple #[.int .u64 0, .int .i64 0, .int .i64 3]) ∧ w' = w := by
  go_enter Tryz.func58, Tryz.ntmps58
  go_wp2_with fail
  refine (reads_yes ad 0 cap 0 0 _ (by omega) (by omega) (by omega)).mono ?_
  rintro en w' ⟨rfl, rfl⟩
  go_wp2_with fail
  refine wp_loop_rounds 1 ?_
  rw [rounds_succ]
  go_wp2
  go_ret3
  exact ⟨rfl, rfl⟩
theorem num64u_any (v : Value) (l : List Int) (x y : Int) (w : World) (hR : Reads w v l) (hb : Byt l) (hlen : l.length ≤ 140737488351232) :
    Calls Tryz.prog 58 #[v, .int .i64 x, .int .i64 y, .int .i64 64, .bool false] w fun en w' => en = .returned (.tuple #[.int .u64 ((rd 64 false l x y).1), .int .i64 (rd 64 false l x y).2.1, .int .i64 (rd 64 false l x y).2.2]) ∧ w' = w := by
  obtain ⟨ad, cap, rfl, hlc, hm, _, h⟩ := hR
  by_cases hin : 0 ≤ x ∧ x ≤ y ∧ y ≤ (l.length : Int)
  · obtain ⟨a, e, rfl, rfl, hae, he⟩ := split_in hin
    rcases h with rfl | ⟨b, off, rfl, hc⟩
    · simp only [List.length_nil] at he
      obtain rfl : e = 0 := by omega
      obtain rfl : a = 0 := by omega
      refine (num64u_none ad cap w).mono ?_
      rintro en w' ⟨rfl, rfl⟩
      have hrd : rd 64 false [] ((0 : Nat) : Int) ((0 : Nat) : Int) = (0, ((0 : Nat) : Int) + 0, 3) := rd_in (by omega) (by simp) rfl
      obtain ⟨h1, h2, h3⟩ := loop_pair hrd
      exact ⟨ret_3 (by rw [h1]) (by rw [h2]; rfl) (by rw [h3]), rfl⟩
    · refine (num64u_in b off cap l a e w hlen hae he hc hb).mono ?_
      rintro en w' ⟨n, p, q, hs, rfl, rfl⟩
      have hrd : rd 64 false l (a : Int) (e : Int) = (n, (a : Int) + p, q) := rd_in hae he hs
      obtain ⟨h1, h2, h3⟩ := loop_pair hrd
      exact ⟨ret_3 (by rw [h1]) (by rw [h2]) (by rw [h3]), rfl⟩
  · refine (num64u_no ad l.length cap x y w hin).mono ?_
    rintro en w' ⟨rfl, rfl⟩
    obtain ⟨h1, h2, h3⟩ := loop_pair (rd_out (b := 64) (sg := false) hin)
    exact ⟨ret_3 (by rw [h1]) (by rw [h2]) (by rw [h3]), rfl⟩

set_option maxRecDepth 100000 in
theorem num32s_no (ad : Option Addr) (len cap : Nat) (x y : Int) (w : World) (h : ¬ (0 ≤ x ∧ x ≤ y ∧ y ≤ len)) :
    Calls Tryz.prog 58 #[.slice ad len cap, .int .i64 x, .int .i64 y, .int .i64 32, .bool true] w fun en w' =>
      en = .returned (.tuple #[.int .u64 0, .int .i64 0, .int .i64 1]) ∧ w' = w := by
  have c1 := reads_no ad len cap x y w h
  clear h
  go_enter Tryz.func58, Tryz.ntmps58
  go_wp2_with fail
  refine c1.mono ?_
  rintro en w' ⟨rfl, rfl⟩
  clear c1
  go_wp2_with fail
  go_ret3
  exact ⟨rfl, rfl⟩
set_option maxRecDepth 100000 in
theorem num32s_none (ad : Option Addr) (cap : Nat) (w : World) :
    Calls Tryz.prog 58 #[.slice ad 0 cap, .int .i64 0, .int .i64 0, .int .i64 32, .bool true] w fun en w' =>
      en = .returned (.tuple #[.int .u64 0, .int .i64 0, .int .i64 3]) ∧ w' = w := by
  go_enter Tryz.func58, Tryz.ntmps58
  go_wp2_with fail
  refine (reads_yes ad 0 cap 0 0 _ (by omega) (by omega) (by omega)).mono ?_
  rintro en w' ⟨rfl, rfl⟩
  go_wp2_with fail
  refine wp_loop_rounds 1 ?_
  rw [rounds_succ]
  go_wp2
  go_ret3
  exact ⟨rfl, rfl⟩
theorem num32s_any (v : Value) (l : List Int) (x y : Int) (w : World) (hR : Reads w v l) (hb : Byt l) (hlen : l.length ≤ 140737488351232) :
    Calls Tryz.prog 58 #[v, .int .i64 x, .int .i64 y, .int .i64 32, .bool true] w fun en w' => en = .returned (.tuple #[.int .u64 ((rd 32 true l x y).1), .int .i64 (rd 32 true l x y).2.1, .int .i64 (rd 32 true l x y).2.2]) ∧ w' = w := by
  obtain ⟨ad, cap, rfl, hlc, hm, _, h⟩ := hR
  by_cases hin : 0 ≤ x ∧ x ≤ y ∧ y ≤ (l.length : Int)
  · obtain ⟨a, e, rfl, rfl, hae, he⟩ := split_in hin
    rcases h with rfl | ⟨b, off, rfl, hc⟩
    · simp only [List.length_nil] at he
      obtain rfl : e = 0 := by omega
      obtain rfl : a = 0 := by omega
      refine (num32s_none ad cap w).mono ?_
      rintro en w' ⟨rfl, rfl⟩
      have hrd : rd 32 true [] ((0 : Nat) : Int) ((0 : Nat) : Int) = (0, ((0 : Nat) : Int) + 0, 3) := rd_in (by omega) (by simp) rfl
      obtain ⟨h1, h2, h3⟩ := loop_pair hrd
      exact ⟨ret_3 (by rw [h1]) (by rw [h2]; rfl) (by rw [h3]), rfl⟩
    · refine (num32s_in b off cap l a e w hlen hae he hc hb).mono ?_
      rintro en w' ⟨n, p, q, hs, rfl, rfl⟩
      have hrd : rd 32 true l (a : Int) (e : Int) = (n, (a : Int) + p, q) := rd_in hae he hs
      obtain ⟨h1, h2, h3⟩ := loop_pair hrd
      exact ⟨ret_3 (by rw [h1]) (by rw [h2]) (by rw [h3]), rfl⟩
  · refine (num32s_no ad l.length cap x y w hin).mono ?_
    rintro en w' ⟨rfl, rfl⟩
    obtain ⟨h1, h2, h3⟩ := loop_pair (rd_out (b := 32) (sg := true) hin)
    exact ⟨ret_3 (by rw [h1]) (by rw [h2]) (by rw [h3]), rfl⟩

set_option maxRecDepth 100000 in
theorem num33s_no (ad : Option Addr) (len cap : Nat) (x y : Int) (w : World) (h : ¬ (0 ≤ x ∧ x ≤ y ∧ y ≤ len)) :
    Calls Tryz.prog 58 #[.slice ad len cap, .int .i64 x, .int .i64 y, .int .i64 33, .bool true] w fun en w' =>
      en = .returned (.tuple #[.int .u64 0, .int .i64 0, .int .i64 1]) ∧ w' = w := by
  have c1 := reads_no ad len cap x y w h
  clear h
  go_enter Tryz.func58, Tryz.ntmps58
  go_wp2_with fail
  refine c1.mono ?_
  rintro en w' ⟨rfl, rfl⟩
  clear c1
  go_wp2_with fail
  go_ret3
  exact ⟨rfl, rfl⟩
set_option maxRecDepth 100000 in
theorem num33s_none (ad : Option Addr) (cap : Nat) (w : World) :
    Calls Tryz.prog 58 #[.slice ad 0 cap, .int .i64 0, .int .i64 0, .int .i64 33, .bool true] w fun en w' =>
      en = .returned (.tuple #[.int .u64 0, .int .i64 0, .int .i64 3]) ∧ w' = w := by
  go_enter Tryz.func58, Tryz.ntmps58
  go_wp2_with fail
  refine (reads_yes ad 0 cap 0 0 _ (by omega) (by omega) (by omega)).mono ?_
  rintro en w' ⟨rfl, rfl⟩
  go_wp2_with fail
  refine wp_loop_rounds 1 ?_
  rw [rounds_succ]
  go_wp2
  go_ret3
  exact ⟨rfl, rfl⟩
theorem num33s_any (v : Value) (l : List Int) (x y : Int) (w : World) (hR : Reads w v l) (hb : Byt l) (hlen : l.length ≤ 140737488351232) :
    Calls Tryz.prog 58 #[v, .int .i64 x, .int .i64 y, .int .i64 33, .bool true] w fun en w' => en = .returned (.tuple #[.int .u64 ((rd 33 true l x y).1), .int .i64 (rd 33 true l x y).2.1, .int .i64 (rd 33 true l x y).2.2]) ∧ w' = w := by
  obtain ⟨ad, cap, rfl, hlc, hm, _, h⟩ := hR
  by_cases hin : 0 ≤ x ∧ x ≤ y ∧ y ≤ (l.length : Int)
  · obtain ⟨a, e, rfl, rfl, hae, he⟩ := split_in hin
    rcases h with rfl | ⟨b, off, rfl, hc⟩
    · simp only [List.length_nil] at he
      obtain rfl : e = 0 := by omega
      obtain rfl : a = 0 := by omega
      refine (num33s_none ad cap w).mono ?_
      rintro en w' ⟨rfl, rfl⟩
      have hrd : rd 33 true [] ((0 : Nat) : Int) ((0 : Nat) : Int) = (0, ((0 : Nat) : Int) + 0, 3) := rd_in (by omega) (by simp) rfl
      obtain ⟨h1, h2, h3⟩ := loop_pair hrd
      exact ⟨ret_3 (by rw [h1]) (by rw [h2]; rfl) (by rw [h3]), rfl⟩
    · refine (num33s_in b off cap l a e w hlen hae he hc hb).mono ?_
      rintro en w' ⟨n, p, q, hs, rfl, rfl⟩
      have hrd : rd 33 true l (a : Int) (e : Int) = (n, (a : Int) + p, q) := rd_in hae he hs
      obtain ⟨h1, h2, h3⟩ := loop_pair hrd
      exact ⟨ret_3 (by rw [h1]) (by rw [h2]) (by rw [h3]), rfl⟩
  · refine (num33s_no ad l.length cap x y w hin).mono ?_
    rintro en w' ⟨rfl, rfl⟩
    obtain ⟨h1, h2, h3⟩ := loop_pair (rd_out (b := 33) (sg := true) hin)
    exact ⟨ret_3 (by rw [h1]) (by rw [h2]) (by rw [h3]), rfl⟩

set_option maxRecDepth 100000 in
theorem num64s_no (ad : Option Addr) (len cap : Nat) (x y : Int) (w : World) (h : ¬ (0 ≤ x ∧ x ≤ y ∧ y ≤ len)) :
    Calls Tryz.prog 58 #[.slice ad len cap, .int .i64 x, .int .i64 y, .int .i64 64, .bool true] w fun en w' =>
      en = .returned (.tuple #[.int .u64 0, .int .i64 0, .int .i64 1]) ∧ w' = w := by
  have c1 := reads_no ad len cap x y w h
  clear h
  go_enter Tryz.func58, Tryz.ntmps58
  go_wp2_with fail
  refine c1.mono ?_
  rintro en w' ⟨rfl, rfl⟩
  clear c1
  go_wp2_with fail
  go_ret3
  exact ⟨rfl, rfl⟩
set_option maxRecDepth 100000 in
theorem num64s_none (ad : Option Addr) (cap : Nat) (w : World) :
    Calls Tryz.prog 58 #[.slice ad 0 cap, .int .i64 0, .int .i64 0, .int .i64 64, .bool true] w fun en w' =>
      en = .returned (.tuple #[.int .u64 0, .int .i64 0, .int .i64 3]) ∧ w' = w := by
  go_enter Tryz.func58, Tryz.ntmps58
  go_wp2_with fail
  refine (reads_yes ad 0 cap 0 0 _ (by omega) (by omega) (by omega)).mono ?_
  rintro en w' ⟨rfl, rfl⟩
  go_wp2_with fail
  refine wp_loop_rounds 1 ?_
  rw [rounds_succ]
  go_wp2
  go_ret3
  exact ⟨rfl, rfl⟩
theorem num64s_any (v : Value) (l : List Int) (x y : Int) (w : World) (hR : Reads w v l) (hb : Byt l) (hlen : l.length ≤ 140737488351232) :
    Calls Tryz.prog 58 #[v, .int .i64 x, .int .i64 y, .int .i64 64, .bool true] w fun en w' => en = .returned (.tuple #[.int .u64 ((rd 64 true l x y).1), .int .i64 (rd 64 true l x y).2.1, .int .i64 (rd 64 true l x y).2.2]) ∧ w' = w := by
  obtain ⟨ad, cap, rfl, hlc, hm, _, h⟩ := hR
  by_cases hin : 0 ≤ x ∧ x ≤ y ∧ y ≤ (l.length : Int)
  · obtain ⟨a, e, rfl, rfl, hae, he⟩ := split_in hin
    rcases h with rfl | ⟨b, off, rfl, hc⟩
    · simp only [List.length_nil] at he
      obtain rfl : e = 0 := by omega
      obtain rfl : a = 0 := by omega
      refine (num64s_none ad cap w).mono ?_
      rintro en w' ⟨rfl, rfl⟩
      have hrd : rd 64 true [] ((0 : Nat) : Int) ((0 : Nat) : Int) = (0, ((0 : Nat) : Int) + 0, 3) := rd_in (by omega) (by simp) rfl
      obtain ⟨h1, h2, h3⟩ := loop_pair hrd
      exact ⟨ret_3 (by rw [h1]) (by rw [h2]; rfl) (by rw [h3]), rfl⟩
    · refine (num64s_in b off cap l a e w hlen hae he hc hb).mono ?_
      rintro en w' ⟨n, p, q, hs, rfl, rfl⟩
      have hrd : rd 64 true l (a : Int) (e : Int) = (n, (a : Int) + p, q) := rd_in hae he hs
      obtain ⟨h1, h2, h3⟩ := loop_pair hrd
      exact ⟨ret_3 (by rw [h1]) (by rw [h2]) (by rw [h3]), rfl⟩
  · refine (num64s_no ad l.length cap x y w hin).mono ?_
    rintro en w' ⟨rfl, rfl⟩
    obtain ⟨h1, h2, h3⟩ := loop_pair (rd_out (b := 64) (sg := true) hin)
    exact ⟨ret_3 (by rw [h1]) (by rw [h2]) (by rw [h3]), rfl⟩

theorem bits32_any (v : Value) (l : List Int) (x y : Int) (w : World) (hR : Reads w v l) (hb : Byt l) (hlen : l.length ≤ 140737488351232) :
    Calls Tryz.prog 111 #[v, .int .i64 x, .int .i64 y, .int .i64 4] w fun en w' => en = .returned (.tuple #[.int .u32 ((fx 4 l x y).1), .int .i64 (fx 4 l x y).2.1, .int .i64 (fx 4 l x y).2.2]) ∧ w' = w := by
  obtain ⟨ad, cap, rfl, hlc, hm, _, h⟩ := hR
  by_cases hin : 0 ≤ x ∧ x ≤ y ∧ y ≤ (l.length : Int)
  · obtain ⟨a, e, rfl, rfl, hae, he⟩ := split_in hin
    by_cases hs : a + 4 ≤ e
    · rcases h with rfl | ⟨b, off, rfl, hc⟩
      · simp only [List.length_nil] at he
        omega
      · refine (bits32_in b off cap l a e w hlen hlc hm hs he hc hb).mono ?_
        rintro en w' ⟨rfl, rfl⟩
        obtain ⟨h1, h2, h3⟩ := loop_pair (fx_in he hs)
        exact ⟨ret_3 (by rw [h1]) (by rw [h2]; rfl) (by rw [h3]), rfl⟩
    · refine (bits32_short ad l.length cap a e w hlen hae he (by omega)).mono ?_
      rintro en w' ⟨rfl, rfl⟩
      obtain ⟨h1, h2, h3⟩ := loop_pair (fx_short (s := 4) hae he (by omega))
      exact ⟨ret_3 (by rw [h1]) (by rw [h2]) (by rw [h3]), rfl⟩
  · refine (bits32_no ad l.length cap x y w hin).mono ?_
    rintro en w' ⟨rfl, rfl⟩
    obtain ⟨h1, h2, h3⟩ := loop_pair (fx_out (s := 4) hin)
    exact ⟨ret_3 (by rw [h1]) (by rw [h2]) (by rw [h3]), rfl⟩
set_option maxRecDepth 100000 in
theorem f32_any (v : Value) (l : List Int) (x y : Int) (w : World) (hR : Reads w v l) (hb : Byt l) (hlen : l.length ≤ 140737488351232) :
    Calls Tryz.prog 81 #[v, .int .i64 x, .int .i64 y] w fun en w' => en = .returned (.tuple #[.int .u32 ((fx 4 l x y).1), .int .i64 (fx 4 l x y).2.1, .int .i64 (fx 4 l x y).2.2]) ∧ w' = w := by
  have c1 := bits32_any v l x y w hR hb hlen
  obtain ⟨ad, cap, rfl⟩ := hR.len
  clear hR hb
  generalize fx 4 l x y = r at *
  go_enter Tryz.func81, Tryz.ntmps81
  go_wp2_with fail
  refine c1.mono ?_
  rintro en w' ⟨rfl, rfl⟩
  clear c1
  go_wp2_with fail
  go_ret3
  exact ⟨rfl, rfl⟩


theorem bits64_any (v : Value) (l : List Int) (x y : Int) (w : World) (hR : Reads w v l) (hb : Byt l) (hlen : l.length ≤ 140737488351232) :
    Calls Tryz.prog 112 #[v, .int .i64 x, .int .i64 y, .int .i64 8] w fun en w' => en = .returned (.tuple #[.int .u64 ((fx 8 l x y).1), .int .i64 (fx 8 l x y).2.1, .int .i64 (fx 8 l x y).2.2]) ∧ w' = w := by
  obtain ⟨ad, cap, rfl, hlc, hm, _, h⟩ := hR
  by_cases hin : 0 ≤ x ∧ x ≤ y ∧ y ≤ (l.length : Int)
  · obtain ⟨a, e, rfl, rfl, hae, he⟩ := split_in hin
    by_cases hs : a + 8 ≤ e
    · rcases h with rfl | ⟨b, off, rfl, hc⟩
      · simp only [List.length_nil] at he
        omega
      · refine (bits64_in b off cap l a e w hlen hlc hm hs he hc hb).mono ?_
        rintro en w' ⟨rfl, rfl⟩
        obtain ⟨h1, h2, h3⟩ := loop_pair (fx_in he hs)
        exact ⟨ret_3 (by rw [h1]) (by rw [h2]; rfl) (by rw [h3]), rfl⟩
    · refine (bits64_short ad l.length cap a e w hlen hae he (by omega)).mono ?_
      rintro en w' ⟨rfl, rfl⟩
      obtain ⟨h1, h2, h3⟩ := loop_pair (fx_short (s := 8) hae he (by omega))
      exact ⟨ret_3 (by rw [h1]) (by rw [h2]) (by rw [h3]), rfl⟩
  · refine (bits64_no ad l.length cap x y w hin).mono ?_
    rintro en w' ⟨rfl, rfl⟩
    obtain ⟨h1, h2, h3⟩ := loop_pair (fx_out (s := 8) hin)
    exact ⟨ret_3 (by rw [h1]) (by rw [h2]) (by rw [h3]), rfl⟩
set_option maxRecDepth 100000 in
theorem f64_any (v : Value) (l : List Int) (x y : Int) (w : World) (hR : Reads w v l) (hb : Byt l) (hlen : l.length ≤ 140737488351232) :
    Calls Tryz.prog 82 #[v, .int .i64 x, .int .i64 y] w fun en w' => en = .returned (.tuple #[.int .u64 ((fx 8 l x y).1), .int .i64 (fx 8 l x y).2.1, .int .i64 (fx 8 l x y).2.2]) ∧ w' = w := by
  have c1 := bits64_any v l x y w hR hb hlen
  obtain ⟨ad, cap, rfl⟩ := hR.len
  clear hR hb
  generalize fx 8 l x y = r at *
  go_enter Tryz.func82, Tryz.ntmps82
  go_wp2_with fail
  refine c1.mono ?_
  rintro en w' ⟨rfl, rfl⟩
  clear c1
  go_wp2_with fail
  go_ret3
  exact ⟨rfl, rfl⟩


theorem fixed1_any (v : Value) (l : List Int) (x y : Int) (w : World) (hR : Reads w v l) (hb : Byt l) (hlen : l.length ≤ 140737488351232) :
    Calls Tryz.prog 60 #[v, .int .i64 x, .int .i64 y, .int .i64 1] w fun en w' => en = .returned (.tuple #[.int .u64 ((fx 1 l x y).1), .int .i64 (fx 1 l x y).2.1, .int .i64 (fx 1 l x y).2.2]) ∧ w' = w := by
  obtain ⟨ad, cap, rfl, hlc, hm, _, h⟩ := hR
  by_cases hin : 0 ≤ x ∧ x ≤ y ∧ y ≤ (l.length : Int)
  · obtain ⟨a, e, rfl, rfl, hae, he⟩ := split_in hin
    by_cases hs : a + 1 ≤ e
    · rcases h with rfl | ⟨b, off, rfl, hc⟩
      · simp only [List.length_nil] at he
        omega
      · refine (fixed_in 1 b off cap l a e w (by omega) (by omega) hlen hs he hc hb).mono ?_
        rintro en w' ⟨rfl, rfl⟩
        obtain ⟨h1, h2, h3⟩ := loop_pair (fx_in he hs)
        exact ⟨ret_3 (by rw [h1]) (by rw [h2]) (by rw [h3]), rfl⟩
    · refine (fixed_short 1 ad l.length cap a e w (by omega) hlen hae he (by omega)).mono ?_
      rintro en w' ⟨rfl, rfl⟩
      obtain ⟨h1, h2, h3⟩ := loop_pair (fx_short (s := 1) hae he (by omega))
      exact ⟨ret_3 (by rw [h1]) (by rw [h2]) (by rw [h3]), rfl⟩
  · refine (fixed_no 1 ad l.length cap x y w hin).mono ?_
    rintro en w' ⟨rfl, rfl⟩
    obtain ⟨h1, h2, h3⟩ := loop_pair (fx_out (s := 1) hin)
    exact ⟨ret_3 (by rw [h1]) (by rw [h2]) (by rw [h3]), rfl⟩

theorem fixed4_any (v : Value) (l : List Int) (x y : Int) (w : World) (hR : Reads w v l) (hb : Byt l) (hlen : l.length ≤ 140737488351232) :
    Calls Tryz.prog 60 #[v, .int .i64 x, .int .i64 y, .int .i64 4] w fun en w' => en = .returned (.tuple #[.int .u64 ((fx 4 l x y).1), .int .i64 (fx 4 l x y).2.1, .int .i64 (fx 4 l x y).2.2]) ∧ w' = w := by
  obtain ⟨ad, cap, rfl, hlc, hm, _, h⟩ := hR
  by_cases hin : 0 ≤ x ∧ x ≤ y ∧ y ≤ (l.length : Int)
  · obtain ⟨a, e, rfl, rfl, hae, he⟩ := split_in hin
    by_cases hs : a + 4 ≤ e
    · rcases h with rfl | ⟨b, off, rfl, hc⟩
      · simp only [List.length_nil] at he
        omega
      · refine (fixed_in 4 b off cap l a e w (by omega) (by omega) hlen hs he hc hb).mono ?_
        rintro en w' ⟨rfl, rfl⟩
        obtain ⟨h1, h2, h3⟩ := loop_pair (fx_in he hs)
        exact ⟨ret_3 (by rw [h1]) (by rw [h2]) (by rw [h3]), rfl⟩
    · refine (fixed_short 4 ad l.length cap a e w (by omega) hlen hae he (by omega)).mono ?_
      rintro en w' ⟨rfl, rfl⟩
      obtain ⟨h1, h2, h3⟩ := loop_pair (fx_short (s := 4) hae he (by omega))
      exact ⟨ret_3 (by rw [h1]) (by rw [h2]) (by rw [h3]), rfl⟩
  · refine (fixed_no 4 ad l.length cap x y w hin).mono ?_
    rintro en w' ⟨rfl, rfl⟩
    obtain ⟨h1, h2, h3⟩ := loop_pair (fx_out (s := 4) hin)
    exact ⟨ret_3 (by rw [h1]) (by rw [h2]) (by rw [h3]), rfl⟩

theorem fixed8_any (v : Value) (l : List Int) (x y : Int) (w : World) (hR : Reads w v l) (hb : Byt l) (hlen : l.length ≤ 140737488351232) :
    Calls Tryz.prog 60 #[v, .int .i64 x, .int .i64 y, .int .i64 8] w fun en w' => en = .returned (.tuple #[.int .u64 ((fx 8 l x y).1), .int .i64 (fx 8 l x y).2.1, .int .i64 (fx 8 l x y).2.2]) ∧ w' = w := by
  obtain ⟨ad, cap, rfl, hlc, hm, _, h⟩ := hR
  by_cases hin : 0 ≤ x ∧ x ≤ y ∧ y ≤ (l.length : Int)
  · obtain ⟨a, e, rfl, rfl, hae, he⟩ := split_in hin
    by_cases hs : a + 8 ≤ e
    · rcases h with rfl | ⟨b, off, rfl, hc⟩
      · simp only [List.length_nil] at he
        omega
      · refine (fixed_in 8 b off cap l a e w (by omega) (by omega) hlen hs he hc hb).mono ?_
        rintro en w' ⟨rfl, rfl⟩
        obtain ⟨h1, h2, h3⟩ := loop_pair (fx_in he hs)
        exact ⟨ret_3 (by rw [h1]) (by rw [h2]) (by rw [h3]), rfl⟩
    · refine (fixed_short 8 ad l.length cap a e w (by omega) hlen hae he (by omega)).mono ?_
      rintro en w' ⟨rfl, rfl⟩
      obtain ⟨h1, h2, h3⟩ := loop_pair (fx_short (s := 8) hae he (by omega))
      exact ⟨ret_3 (by rw [h1]) (by rw [h2]) (by rw [h3]), rfl⟩
  · refine (fixed_no 8 ad l.length cap x y w hin).mono ?_
    rintro en w' ⟨rfl, rfl⟩
    obtain ⟨h1, h2, h3⟩ := loop_pair (fx_out (s := 8) hin)
    exact ⟨ret_3 (by rw [h1]) (by rw [h2]) (by rw [h3]), rfl⟩

end Go.Proofs.YtohapnninjdlfaaGreatDoor
