/- Layer 12, the reference over memory: what is reached from some objects. -/
import Derived.Test.YthmeafnofckoiaaDoorPlE
namespace Go.Proofs.YthmeafnofckoiaaDoor
open Go Go.RowKit
open Layertwelve (Ob trapF objN loadF storeF slotF wordsF shapeF makeF firstF slotsF goF reachF)

/-- What was met so far stands in a row of its own. -/
def OutR (w : World) (out : List Int) (v : Value) (wr : World) : Prop := wr.ownsRow w.heap.size 3 1 v out.length (ints12 out) ∧ Below w.heap.size w wr
theorem OutR.below {w wr wr' : World} {out : List Int} {v : Value} (h : OutR w out v wr) (b : Below wr.heap.size wr wr') : OutR w out v wr' := by
  refine ⟨⟨h.1.1, ?_⟩, below_step h.2 b⟩
  rcases h.1.2 with hn | ⟨g, cap, cur, hv2, hbb, hg, rest⟩
  · exact .inl hn
  · exact .inr ⟨g, cap, cur, hv2, hbb, (b.block g (Array.getElem?_eq_some_iff.1 hg).1).trans hg, rest⟩
theorem OutR.step {w wr w2 : World} {out : List Int} {v v' : Value} {x : Int} (h : OutR w out v wr)
    (own : w2.ownsRow w.heap.size 3 1 v' (out.length + 1) (ints12 out ++ [.int .i64 x])) (hg : (wr.alloc (.cells #[.int .i64 x] 3)).grownBy w2 v.ownBlock) : OutR w (out ++ [x]) v' w2 := by
  have bx := below_box wr (.cells #[.int .i64 x] 3)
  have hrow : ∀ q, v.ownBlock = some q → w.heap.size ≤ q := fun q hq => (h.1.lt q hq).1
  refine ⟨by simpa using own, hg.os.trans (bx.os.trans h.2.os), hg.tape.trans (bx.tape.trans h.2.tape), hg.output.trans (bx.output.trans h.2.output), Nat.le_trans h.2.size (Nat.le_trans bx.size hg.size), fun k hk => ?_⟩
  have hz := h.2.size
  have hz2 := bx.size
  exact (hg.block k (by omega) (fun e => by have := hrow k e.symm; omega)).trans ((bx.block k (by omega)).trans (h.2.block k hk))
theorem firstF_snoc {n : Nat} : ∀ (a : List Int) (x : Int) (out : List Int), firstF n (a ++ [x]) out = (if 1 ≤ x ∧ x ≤ (n : Int) ∧ x ∉ firstF n a out then firstF n a out ++ [x] else firstF n a out)
  | [], x, out => rfl
  | y :: r, x, out => by
    show firstF n (r ++ [x]) _ = _
    rw [firstF_snoc r x]; rfl
end Go.Proofs.YthmeafnofckoiaaDoor
