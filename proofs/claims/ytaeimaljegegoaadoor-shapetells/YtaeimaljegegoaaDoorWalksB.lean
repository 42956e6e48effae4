/- What Of of layer 3, and the document's, return for every word. -/
import Derived.Test.YtaeimaljegegoaaDoorWalksA
namespace Go.Proofs.YtaeimaljegegoaaDoor
open Go Go.RowKit

theorem below_new {w w1 : World} {o : Obj} (h : Below (w.alloc o).heap.size (w.alloc o) w1) : Below w.heap.size w w1 := (below_box w o).trans (h.mono (by simp))
theorem below_put2 {w w1 : World} (h : Below w.heap.size w w1) (u v : Value) : Below w.heap.size w ((w1.setCell ⟨w.heap.size, 0, none⟩ u).setCell ⟨w.heap.size, 1, none⟩ v) := (h.setCell (by simp) _).setCell (by simp) _
theorem below_new2 {w w1 w2 : World} {o p : Obj} (h : Below (w.alloc o).heap.size (w.alloc o) w1) (h2 : Below (w1.alloc p).heap.size (w1.alloc p) w2) : Below w.heap.size w w2 :=
  (below_new h).trans ((below_new h2).mono (below_new h).size)

/-- Two cells of a block, which may be written. -/
def Pair (w : World) (g : Nat) (a b : Value) : Prop :=
  w.cell? ⟨g, 0, none⟩ = some a ∧ w.cell? ⟨g, 1, none⟩ = some b ∧ w.frozen? ⟨g, 0, none⟩ = false ∧ w.frozen? ⟨g, 1, none⟩ = false ∧ g < w.heap.size
theorem Pair.new (w : World) (t : TypeId) {a b : Value} : Pair (w.alloc (.cells #[a, b] t)) w.heap.size a b := by
  refine ⟨?_, ?_, ?_, ?_, by simp⟩ <;> simp [go_sem]
theorem Pair.below {w w1 : World} {g : Nat} {a b : Value} (h : Pair w g a b) (hb : Below w.heap.size w w1) : Pair w1 g a b := by
  obtain ⟨c0, c1, f0, f1, z⟩ := h
  exact ⟨(hb.cell z).trans c0, (hb.cell z).trans c1, (hb.frozen z).trans f0, (hb.frozen z).trans f1, Nat.lt_of_lt_of_le z hb.size⟩
theorem Pair.alloc {w : World} {g : Nat} {a b : Value} (h : Pair w g a b) (o : Obj) : Pair (w.alloc o) g a b := h.below (below_box w o)

theorem of_low (h : Int) (w : World) (h0 : h < 0) :
    Calls Tryd.prog 9 #[.int .i64 h] w fun e w' => e = .returned (.tuple #[.agg #[.int .i64 0, .int .i64 0], .int .i64 16]) ∧ Below w.heap.size w w' := by
  go_enter Tryd.func9, Tryd.ntmps9
  go_wp2_with fail
  exact bodyPost_ret (v := .tuple #[.agg #[.int .i64 0, .int .i64 0], .int .i64 16]) (by simp [results, Tryd.results9, go_sem]) rfl ⟨rfl, below_box _ _⟩

set_option maxHeartbeats 400000 in
theorem of_high (h : Int) (w : World) (h0 : 2097136 < h) :
    Calls Tryd.prog 9 #[.int .i64 h] w fun e w' => e = .returned (.tuple #[.agg #[.int .i64 0, .int .i64 0], .int .i64 16]) ∧ Below w.heap.size w w' := by
  go_enter Tryd.func9, Tryd.ntmps9
  go_wp2_with fail
  refine (all_any 16 _ (by omega)).mono ?_; rintro e w1 ⟨rfl, rfl⟩
  go_wp2_with fail
  refine (head_any 16 65535 _ (by omega) (by omega)).mono ?_; rintro e w1 ⟨rfl, b1⟩
  obtain ⟨c0, c1, f0, f1, z0⟩ := (Pair.new w 23).below b1
  go_wp2_with fail
  exact bodyPost_ret (v := .tuple #[.agg #[.int .i64 0, .int .i64 0], .int .i64 16]) (by simp [results, Tryd.results9, go_sem, c0, c1]) rfl ⟨rfl, below_put2 (below_new b1) _ _⟩

theorem of_none (h : Nat) (w : World) (h1 : h ≤ 2097136) (hno : code ((h % 32 : Nat) : Int) ((h / 32 : Nat) : Int) = 16) :
    Calls Tryd.prog 9 #[.int .i64 h] w fun e w' => e = .returned (.tuple #[.agg #[.int .i64 0, .int .i64 0], .int .i64 16]) ∧ Below w.heap.size w w' := by
  have HN := hide hno
  clear hno
  go_enter Tryd.func9, Tryd.ntmps9
  go_wp2_with fail
  refine (all_any 16 _ (by omega)).mono ?_; rintro e w1 ⟨rfl, rfl⟩
  go_wp2_with fail
  refine (head_any 16 65535 _ (by omega) (by omega)).mono ?_; rintro e w1 ⟨rfl, b1⟩
  have P1 := hide ((Pair.new w 23).below b1)
  go_wp2_with fail
  refine (check_all ((h % 32 : Nat) : Int) ((h / 32 : Nat) : Int) _).mono ?_; rintro e w2 ⟨rfl, b2⟩
  rw [HN.out]
  obtain ⟨c0, c1, f0, f1, z0⟩ := (P1.out.alloc _).below b2
  go_wp2_with fail
  exact bodyPost_ret (v := .tuple #[.agg #[.int .i64 0, .int .i64 0], .int .i64 16]) (by simp [results, Tryd.results9, go_sem, c0, c1]) rfl ⟨rfl, below_put2 (below_new2 b1 b2) _ _⟩

theorem of_some (n m : Nat) (w : World) (hn : n ≤ 16) (hm : m < 2 ^ n) :
    Calls Tryd.prog 9 #[.int .i64 ((m * 32 + n : Nat) : Int)] w fun e w' => e = .returned (.tuple #[.agg #[.int .i64 n, .int .i64 m], .int .i64 0]) ∧ Below w.heap.size w w' := by
  have HN := hide (code_yes hn hm)
  have hm' : m ≤ 65535 := by
    have : 2 ^ n ≤ 2 ^ 16 := Nat.pow_le_pow_right (by decide) hn
    have : (2 : Nat) ^ 16 = 65536 := by decide
    omega
  have e1 : (((m * 32 + n : Nat) : Int) % 32) = n := by omega
  have e2 : (((m * 32 + n : Nat) : Int) / 32) = m := by omega
  have hx : m * 32 + n ≤ 2097136 := by omega
  generalize m * 32 + n = x at *
  go_enter Tryd.func9, Tryd.ntmps9
  go_wp2_with fail
  refine (all_any 16 _ (by omega)).mono ?_; rintro e w1 ⟨rfl, rfl⟩
  go_wp2_with fail
  refine (head_any 16 65535 _ (by omega) (by omega)).mono ?_; rintro e w1 ⟨rfl, b1⟩
  have P1 := hide ((Pair.new w 23).below b1)
  go_wp2_with fail
  refine (check_all n m _).mono ?_; rintro e w2 ⟨rfl, b2⟩
  rw [HN.out]
  obtain ⟨c0, c1, f0, f1, z0⟩ := (P1.out.alloc _).below b2
  obtain ⟨d0, d1, g0, g1, z1⟩ := (Pair.new w1 23).below b2
  go_wp2_with fail
  exact bodyPost_ret (v := .tuple #[.agg #[.int .i64 n, .int .i64 m], .int .i64 0]) (by simp [results, Tryd.results9, go_sem, c0, c1]) rfl ⟨rfl, below_put2 (below_new2 b1 b2) _ _⟩

theorem refOf_out (h : Int) (w : World) (h0 : h < 0 ∨ 2097152 ≤ h) :
    Calls Tryd.prog 10 #[.int .i64 h] w fun e w' => e = .returned (.tuple #[.agg #[.int .i64 0, .int .i64 0], .int .i64 16]) ∧ Below w.heap.size w w' := by
  rcases h0 with h0 | h0
  all_goals
    go_enter Tryd.func10, Tryd.ntmps10
    go_wp2_with fail
    exact bodyPost_ret (v := .tuple #[.agg #[.int .i64 0, .int .i64 0], .int .i64 16]) (by simp [results, Tryd.results10, go_sem]) rfl ⟨rfl, below_box _ _⟩

theorem refOf_none (h : Nat) (w : World) (h1 : h < 2097152) (hno : code ((h % 32 : Nat) : Int) ((h / 32 : Nat) : Int) = 16) :
    Calls Tryd.prog 10 #[.int .i64 h] w fun e w' => e = .returned (.tuple #[.agg #[.int .i64 0, .int .i64 0], .int .i64 16]) ∧ Below w.heap.size w w' := by
  have HN := hide hno
  clear hno
  go_enter Tryd.func10, Tryd.ntmps10
  go_wp2_with fail
  refine (refCheck_all ((h % 32 : Nat) : Int) ((h / 32 : Nat) : Int) _).mono ?_; rintro e w2 ⟨rfl, b2⟩
  rw [HN.out]
  obtain ⟨c0, c1, f0, f1, z0⟩ := ((Pair.new w 23).alloc _).below b2
  go_wp2_with fail
  exact bodyPost_ret (v := .tuple #[.agg #[.int .i64 0, .int .i64 0], .int .i64 16]) (by simp [results, Tryd.results10, go_sem, c0, c1]) rfl ⟨rfl, below_put2 (below_new (below_new b2)) _ _⟩

theorem refOf_some (n m : Nat) (w : World) (hn : n ≤ 16) (hm : m < 2 ^ n) :
    Calls Tryd.prog 10 #[.int .i64 ((m * 32 + n : Nat) : Int)] w fun e w' => e = .returned (.tuple #[.agg #[.int .i64 n, .int .i64 m], .int .i64 0]) ∧ Below w.heap.size w w' := by
  have HN := hide (code_yes hn hm)
  have hm' : m ≤ 65535 := by
    have : 2 ^ n ≤ 2 ^ 16 := Nat.pow_le_pow_right (by decide) hn
    have : (2 : Nat) ^ 16 = 65536 := by decide
    omega
  have e1 : (((m * 32 + n : Nat) : Int) % 32) = n := by omega
  have e2 : (((m * 32 + n : Nat) : Int) / 32) = m := by omega
  have hx : m * 32 + n ≤ 2097136 := by omega
  generalize m * 32 + n = x at *
  go_enter Tryd.func10, Tryd.ntmps10
  go_wp2_with fail
  refine (refCheck_all n m _).mono ?_; rintro e w2 ⟨rfl, b2⟩
  rw [HN.out]
  obtain ⟨c0, c1, f0, f1, z0⟩ := ((Pair.new w 23).alloc _).below b2
  obtain ⟨d0, d1, g0, g1, z1⟩ := (Pair.new (w.alloc (.cells #[.int .i64 0, .int .i64 0] 23)) 23).below b2
  simp at d0 d1 g0 g1
  go_wp2_with fail
  exact bodyPost_ret (v := .tuple #[.agg #[.int .i64 n, .int .i64 m], .int .i64 0]) (by simp [results, Tryd.results10, go_sem, c0, c1]) rfl ⟨rfl, below_put2 (below_new (below_new b2)) _ _⟩

/-- The word of a shape that may be. -/
def Word (h : Int) : Prop := ∃ n m : Nat, h = ((m * 32 + n : Nat) : Int) ∧ n ≤ 16 ∧ m < 2 ^ n
theorem code_word {h : Nat} (hno : ¬ Word h) : code ((h % 32 : Nat) : Int) ((h / 32 : Nat) : Int) = 16 := by
  rcases code_cases ((h % 32 : Nat) : Int) ((h / 32 : Nat) : Int) with ⟨_, n, k, h1, h2, h3, h4⟩ | h'
  · exact (hno ⟨n, k, by omega, h3, h4⟩).elim
  · exact h'
theorem of_no (h : Int) (w : World) (hno : ¬ Word h) :
    Calls Tryd.prog 9 #[.int .i64 h] w fun e w' => e = .returned (.tuple #[.agg #[.int .i64 0, .int .i64 0], .int .i64 16]) ∧ Below w.heap.size w w' := by
  by_cases h0 : h < 0
  · exact of_low h w h0
  by_cases h1 : 2097136 < h
  · exact of_high h w h1
  obtain ⟨n, rfl⟩ : ∃ n : Nat, h = n := ⟨h.toNat, by omega⟩
  exact of_none n w (by omega) (code_word hno)
theorem refOf_no (h : Int) (w : World) (hno : ¬ Word h) :
    Calls Tryd.prog 10 #[.int .i64 h] w fun e w' => e = .returned (.tuple #[.agg #[.int .i64 0, .int .i64 0], .int .i64 16]) ∧ Below w.heap.size w w' := by
  by_cases h0 : h < 0 ∨ 2097152 ≤ h
  · exact refOf_out h w h0
  obtain ⟨n, rfl⟩ : ∃ n : Nat, h = n := ⟨h.toNat, by omega⟩
  exact refOf_none n w (by omega) (code_word hno)
end Go.Proofs.YtaeimaljegegoaaDoor
