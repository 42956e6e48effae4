/- A region that draws its order, whose operations only read and whose callees may make memory: one walk of the text's order serves every order, in the class of the worlds that have grown out of the first. -/
import Derived.Test.YthmeafnofckoiaaDoorWalksC
namespace Go.Proofs.YthmeafnofckoiaaDoor
open Go Go.RowKit

theorem below_step {a b c : World} (h : Below a.heap.size a b) (k : Below b.heap.size b c) : Below a.heap.size a c := h.trans (k.mono h.size)
theorem below_drew1 (w : World) : Below w.heap.size w w.drew := (Below.refl _ _).drew

open Classical in
/-- Any world in which all that there was in W is as it was: x itself, if it is one; else W behind a draw. -/
noncomputable def grewTo (W x : World) : World := if Below W.heap.size W x then x else W.drew
theorem grewTo_below (W x : World) : Below W.heap.size W (grewTo W x) := by
  unfold grewTo; split
  · assumption
  · exact below_drew1 W
theorem grewTo_of {W w' : World} (h : Below W.heap.size W w') : w' = grewTo W w' := by unfold grewTo; rw [if_pos h]

theorem region_grew {P : Program} {id : Nat} {Q : Exit → Act → World → Prop} {a : Act} {W : World} {l : List Oper} (hm : P.follows .mixedOrders = true) (hB : Region.lexB .any l.toArray = true)
    (h : wpQuiet P l.toArray (fun w' => ∃ x : World, w' = grewTo W x) (fun a' => ∀ w', (∃ x : World, w' = grewTo W x) → Q .normal a' w') l a) : (Code.region id l.toArray true).wp P Q a W :=
  wp_region_quiet (C := fun w' => ∃ x : World, w' = grewTo W x) hm hB ⟨W.drew, grewTo_of (below_drew1 W)⟩ (by simpa using h)

theorem calls_grew {P : Program} {f : FuncId} {args : Array Value} {W : World} {x : World} {v : Value}
    (h : Calls P f args (grewTo W x) fun e w' => e = .returned v ∧ Below (grewTo W x).heap.size (grewTo W x) w') :
    Calls P f args (grewTo W x) fun e w'' => e = .returned v ∧ ∃ y : World, w'' = grewTo W y :=
  h.mono fun _ _ ⟨he, hb⟩ => ⟨he, _, grewTo_of (below_step (grewTo_below W x) hb)⟩
theorem calls_grew_same {P : Program} {f : FuncId} {args : Array Value} {W : World} {x : World} {v : Value}
    (h : Calls P f args (grewTo W x) fun e w' => e = .returned v ∧ w' = grewTo W x) :
    Calls P f args (grewTo W x) fun e w'' => e = .returned v ∧ ∃ y : World, w'' = grewTo W y :=
  h.mono fun _ _ ⟨he, hb⟩ => ⟨he, x, hb⟩

/-- A pair that lay in the first world lies in each that has grown out of it. -/
theorem grew_pair {W : World} {g : Nat} {a b : Value} (h : Pair W g a b) (x : World) : Pair (grewTo W x) g a b := h.below (grewTo_below W x)
theorem grew_tab {W : World} (h : Tab W) (x : World) : Tab (grewTo W x) := h.below (grewTo_below W x)
end Go.Proofs.YthmeafnofckoiaaDoor
