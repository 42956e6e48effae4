/- Layer 12, the reference's objects in memory: a row that was copied; an append by its run. -/
import Derived.Test.YthmeafnofckoiaaDoorPrA
namespace Go.Proofs.YthmeafnofckoiaaDoor
open Go Go.RowKit
open Layertwelve (Ob trapF objN loadF storeF slotF wordsF shapeF makeF firstF slotsF goF reachF)

theorem ObjX.copied {F : Nat → Prop} {w w1 : World} {l : List Ob} {g g1 B n1 c1 : Nat} {t : TypeId} {rest : List Value} (h : ∀ i x, l[i]? = some x → ObjX F w x g (i * 3)) (b : Below w.heap.size w w1)
    (own : w1.ownsRow B t 3 (.slice (some ⟨g1, 0, none⟩) n1 c1) n1 (rawRow w g l.length ++ rest)) (hn : l.length ≤ n1) : ∀ i x, l[i]? = some x → ObjX F w1 x g1 (i * 3) := by
  intro i x hi
  have hl := (List.getElem?_eq_some_iff.1 hi).1
  obtain ⟨q, c, a1, a2, a3, a4, a5, a6, a7⟩ := h i x hi
  have cell : ∀ j, j < 3 → ∀ u, w.cell? ⟨g, i * 3 + j, none⟩ = some u → w1.cell? ⟨g1, i * 3 + j, none⟩ = some u := fun j hj u hu => by
    have hlt : i * 3 + j < l.length * 3 := by omega
    rw [World.ownsRow.cellAt own (i * 3 + j) (by omega), List.getElem?_append_left (by rw [rawRow_len]; exact hlt), rawRow_at hlt, hu]
    rfl
  exact ⟨q, c, cell 0 (by omega) _ a1, cell 1 (by omega) _ a2, cell 2 (by omega) _ a3, Nat.lt_of_lt_of_le a4 b.size, a5, fun k n hk => (b.cell (p := ⟨q, k, none⟩) a4).trans (a6 k n hk), a7⟩
/-- An append by its run, in a region that does not draw. -/
theorem wpList_run {P : Program} {w : World} {ops : Array Oper} {rest : List Oper} {o : Oper} {a : Act} {Q : Exit → Act → World → Prop} (hgd : o.guard = none) (s x : Operand) (t : TypeId)
    (ho : o.op = .call { callee := .builtin .append, args := #[s, x], argTypes := #[t, t] }) (v vx : Value) (hs : a.eval s = v) (hx : a.eval x = vx) (v2 : Value) (w2 : World) (hr : (Builtin.append_ #[t, t] o.type #[v, vx]).run P w = .ok v2 w2)
    (h : wpList P ops Q rest (a.put o.dst v2) w2) : wpList P ops Q (o :: rest) a w := by
  refine wpList_plain hgd fun K hK => ?_
  unfold Oper.wp
  simp [execOp, ho, resolve, invoke, builtin, hs, hx, hr, Result.andThen]
  exact hK _ _ h
end Go.Proofs.YthmeafnofckoiaaDoor
