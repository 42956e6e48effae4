/- What Of of layer 3, and the document's, return for every word. -/
import Derived.Test.YthmeafnofckoiaaDoorWalksA
namespace Go.Proofs.YthmeafnofckoiaaDoor
open Go Go.RowKit

theorem below_new {w w1 : World} {o : Obj} (h : Below (w.alloc o).heap.size (w.alloc o) w1) : Below w.heap.size w w1 := (below_box w o).trans (h.mono (by simp))
theorem below_put2 {w w1 : World} (h : Below w.heap.size w w1) (u v : Value) : Below w.heap.size w ((w1.setCell ⟨w.heap.size, 0, none⟩ u).setCell ⟨w.heap.size, 1, none⟩ v) := (h.setCell (by simp) _).setCell (by simp) _
theorem below_new2 {w w1 w2 : World} {o p : Obj} (h : Below (w.alloc o).heap.size (w.alloc o) w1) (h2 : Below (w1.alloc p).heap.size (w1.alloc p) w2) : Below w.heap.size w w2 :=
  (below_new h).trans ((below_new h2).mono (below_new h).size)

/-- Two cells of a block, which may be written. -/
def Pair (w : World) (g : Nat) (a b : Value) : Prop :=
  w.cell? ⟨g, 0, none⟩ = some a ∧ w.cell? ⟨g, 1, none⟩ = some b ∧ w.frozen? ⟨g, 0, none⟩ = false ∧ w.frozen? ⟨g, 1, none⟩ = false ∧ g < w.heap.size
theorem Pair.new (w : World) (t : TypeId) {a b : Value} : Pair (w.alloc (.cells #[a, b] t)) w.heap.size a b := by
  refine ⟨?_, ?_, ?_, ?_, by simp⟩ <;> simp [go_sem]
theorem Pair.below {w w1 : World} {g : Nat} {a b : Value} (h : Pair w g a b) (hb : Below w.heap.size w w1) : Pair w1 g a b := by
  obtain ⟨c0, c1, f0, f1, z⟩ := h
  exact ⟨(hb.cell z).trans c0, (hb.cell z).trans c1, (hb.frozen z).trans f0, (hb.frozen z).trans f1, Nat.lt_of_lt_of_le z hb.size⟩
theorem Pair.alloc {w : World} {g : Nat} {a b : Value} (h : Pair w g a b) (o : Obj) : Pair (w.alloc o) g a b := h.below (below_box w o)








/-- The word of a shape that may be. -/
def Word (h : Int) : Prop := ∃ n m : Nat, h = ((m * 32 + n : Nat) : Int) ∧ n ≤ 16 ∧ m < 2 ^ n
theorem code_word {h : Nat} (hno : ¬ Word h) : code ((h % 32 : Nat) : Int) ((h / 32 : Nat) : Int) = 16 := by
  rcases code_cases ((h % 32 : Nat) : Int) ((h / 32 : Nat) : Int) with ⟨_, n, k, h1, h2, h3, h4⟩ | h'
  · exact (hno ⟨n, k, by omega, h3, h4⟩).elim
  · exact h'
end Go.Proofs.YthmeafnofckoiaaDoor
