/- The document's words by an operation's number; the word of an instruction and what it makes, of the program and of the document. -/
import Derived.Test.YtjnndcellbhpaaaDoorWalksB
import Derived.Deep.Cut
namespace Go.Proofs.YtjnndcellbhpaaaDoor
open Go Go.RowKit

def wordsA : Array Value := ((List.range 30).map (fun k => Value.string (word k))).toArray
theorem new_words (w : World) (t : TypeId) (k : Nat) (hk : k < 30) : (w.alloc (.cells wordsA t)).cell? ⟨w.heap.size, k, none⟩ = some (.string (word k)) := by
  rw [Joins.cell_alloc_mark_at _ _ _ _ _ _ rfl]
  simp [wordsA, hk]
theorem refWord_in (k : Nat) (w : World) (h0 : 1 ≤ k) (h1 : k ≤ 29) : Calls Tryd.prog 38 #[.int .i64 k] w fun e w' => e = .returned (.string (word k)) ∧ Below w.heap.size w w' := by
  have hc := new_words w 9 k (by omega)
  have HB := hide (below_box w (.cells wordsA 9))
  go_enter Tryd.func38, Tryd.ntmps38
  go_upto_region 2 with fail
  show Code.wp _ _ _ _ (w.alloc (.cells wordsA 9))
  generalize w.alloc (.cells wordsA 9) = W at *
  go_wp2_with fail
  go_ret
  exact ⟨rfl, HB.out⟩
theorem refWord_out (op : Int) (w : World) (h : ¬ (1 ≤ op ∧ op ≤ 29)) : Calls Tryd.prog 38 #[.int .i64 op] w fun e w' => e = .returned (.string (word 0)) ∧ Below w.heap.size w w' := by
  have HB := hide (below_box w (.cells wordsA 9))
  by_cases h1 : op < 1
  all_goals
    go_enter Tryd.func38, Tryd.ntmps38
    go_upto_region 2 with fail
    show Code.wp _ _ _ _ (w.alloc (.cells wordsA 9))
    generalize w.alloc (.cells wordsA 9) = W at *
    go_wp2_with fail
    go_ret
    exact ⟨rfl, HB.out⟩
theorem refWord_any (op : Int) (w : World) : Calls Tryd.prog 38 #[.int .i64 op] w fun e w' => e = .returned (.string (word (num op))) ∧ Below w.heap.size w w' := by
  by_cases h : 1 ≤ op ∧ op ≤ 29
  · have e : op = (op.toNat : Int) := by omega
    have := refWord_in op.toNat w (by omega) (by omega)
    rw [← e] at this
    rwa [show num op = op.toNat from if_pos h]
  · rw [num_out h]; exact refWord_out op w h

/-- A block reads as these values. -/
def Box (w : World) (g : Nat) (l : List Value) : Prop := g < w.heap.size ∧ ∀ i v, l[i]? = some v → w.cell? ⟨g, i, none⟩ = some v
theorem Box.new (w : World) (l : List Value) (t : TypeId) : Box (w.alloc (.cells l.toArray t)) w.heap.size l :=
  ⟨by simp, fun i v h => by rw [Joins.cell_alloc_mark_at _ _ _ _ _ _ rfl]; simpa using h⟩
theorem Box.below {w w1 : World} {g : Nat} {l : List Value} (h : Box w g l) (hb : Below w.heap.size w w1) : Box w1 g l :=
  ⟨Nat.lt_of_lt_of_le h.1 hb.size, fun i v hi => (hb.cell (p := ⟨g, i, none⟩) h.1).trans (h.2 i v hi)⟩

/-! ### A region that draws its order, whose callees may make memory -/
theorem below_drew1 (w : World) : Below w.heap.size w w.drew := (Below.refl _ _).drew
open Classical in
/-- Any world in which all that there was in W is as it was: x itself, if it is one; else W behind a draw. -/
noncomputable def grewTo (W x : World) : World := if Below W.heap.size W x then x else W.drew
theorem grewTo_below (W x : World) : Below W.heap.size W (grewTo W x) := by
  unfold grewTo; split
  · assumption
  · exact below_drew1 W
theorem grewTo_of {W w' : World} (h : Below W.heap.size W w') : w' = grewTo W w' := by unfold grewTo; rw [if_pos h]
theorem region_grew {P : Program} {id : Nat} {Q : Exit → Act → World → Prop} {a : Act} {W : World} {l : List Oper} (hm : P.follows .mixedOrders = true) (hB : Region.lexB .any l.toArray = true)
    (h : wpQuiet P l.toArray (fun w' => ∃ x : World, w' = grewTo W x) (fun a' => ∀ w', (∃ x : World, w' = grewTo W x) → Q .normal a' w') l a) : (Code.region id l.toArray true).wp P Q a W :=
  wp_region_quiet (C := fun w' => ∃ x : World, w' = grewTo W x) hm hB ⟨W.drew, grewTo_of (below_drew1 W)⟩ (by simpa using h)
theorem calls_grew {P : Program} {f : FuncId} {args : Array Value} {W : World} {x : World} {v : Value}
    (h : Calls P f args (grewTo W x) fun e w' => e = .returned v ∧ Below (grewTo W x).heap.size (grewTo W x) w') :
    Calls P f args (grewTo W x) fun e w'' => e = .returned v ∧ ∃ y : World, w'' = grewTo W y :=
  h.mono fun _ _ ⟨he, hb⟩ => ⟨he, _, grewTo_of (below_step (grewTo_below W x) hb)⟩
theorem calls_grew_same {P : Program} {f : FuncId} {args : Array Value} {W : World} {x : World} {v : Value}
    (h : Calls P f args (grewTo W x) fun e w' => e = .returned v ∧ w' = grewTo W x) :
    Calls P f args (grewTo W x) fun e w'' => e = .returned v ∧ ∃ y : World, w'' = grewTo W y :=
  h.mono fun _ _ ⟨he, hb⟩ => ⟨he, x, hb⟩
theorem grew_box {W : World} {g : Nat} {l : List Value} (h : Box W g l) (x : World) : Box (grewTo W x) g l := h.below (grewTo_below W x)
theorem grew_tab {W : World} (h : Tab W) (x : World) : Tab (grewTo W x) := h.below (grewTo_below W x)

theorem iword_typed {op t : Int} (h : beside (num op) 128 = true) : word (num op) ++ ⟨#[46]⟩ ++ letter t = iword op t := by unfold iword; rw [if_pos h]
theorem iword_plain {op t : Int} (h : beside (num op) 128 = false) : word (num op) = iword op t := by unfold iword; rw [if_neg (by simp [h])]
theorem imakes_typed {op t : Int} (h : beside (num op) 128 = true) : t = imakes op t := by unfold imakes; rw [if_pos h]
theorem imakes_plain {op t : Int} (h : beside (num op) 128 = false) : mk (num op) = imakes op t := by unfold imakes; rw [if_neg (by simp [h])]

theorem makes_any (op t : Int) (a b c d e f : Value) (w : World) (ht : Tab w) : Calls Tryd.prog 9 #[.agg #[.int .i64 op, a, b, .int .i64 t, c, d, e, f]] w fun e w' => e = .returned (.int .i64 (imakes op t)) ∧ Below w.heap.size w w' := by
  have hf := field_makes
  have HB := hide (Box.new w [.int .i64 op, a, b, .int .i64 t, c, d, e, f] 24)
  have HT := hide (ht.below (below_box w (.cells #[.int .i64 op, a, b, .int .i64 t, c, d, e, f] 24)))
  clear ht
  cases h : beside (num op) 128
  · have HM := hide (imakes_plain (t := t) h)
    replace h := hide h
    go_enter Tryd.func9, Tryd.ntmps9
    go_wp2_with fail
    refine (does_any op 128 _ HT.out).mono ?_; rintro e w1 ⟨rfl, b1⟩
    rw [h.out]
    have c0 := (HB.out.below b1).2 0 _ rfl
    go_wp2_with fail
    refine (of_any op _ (HT.out.below b1)).mono ?_; rintro e w2 ⟨rfl, b2⟩
    unfold rowVal
    go_wp2_with fail
    go_ret
    exact ⟨ret_int HM.out, below_step (below_new b1) b2⟩
  · have HM := hide (imakes_typed (t := t) h)
    replace h := hide h
    go_enter Tryd.func9, Tryd.ntmps9
    go_wp2_with fail
    refine (does_any op 128 _ HT.out).mono ?_; rintro e w1 ⟨rfl, b1⟩
    rw [h.out]
    have c0 := (HB.out.below b1).2 3 _ rfl
    go_wp2_with fail
    go_ret
    exact ⟨ret_int HM.out, below_new b1⟩
end Go.Proofs.YtjnndcellbhpaaaDoor
