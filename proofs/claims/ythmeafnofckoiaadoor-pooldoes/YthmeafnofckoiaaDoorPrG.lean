/- Layer 12, the pool and the reference's objects side by side, over memory. -/
import Derived.Test.YthmeafnofckoiaaDoorPrD
import Derived.Test.YthmeafnofckoiaaDoorPrE
import Derived.Test.YthmeafnofckoiaaDoorPrF
import Derived.Test.YthmeafnofckoiaaDoorPmN
namespace Go.Proofs.YthmeafnofckoiaaDoor
open Go Go.RowKit
open Layertwelve (Ob trapF objN loadF storeF slotF wordsF shapeF makeF firstF slotsF goF reachF Ok)

/-- The pool holds these objects, the reference's row those, each in memory of its own. -/
def JR (w : World) (gp : Nat) (lp lr : List Ob) (rv : Value) (wr : World) : Prop := ∃ F, PoolF wr w.heap.size gp lp F ∧ ObjsX F wr lr rv ∧ Below w.heap.size w wr
/-- And a box for an act beside them. -/
def JJ (w : World) (gp : Nat) (lp lr : List Ob) (rv : Value) (bb : Nat) (cs : Array Value) (wr : World) : Prop := ∃ F, PoolF wr w.heap.size gp lp F ∧ ObjsX F wr lr rv ∧ Below w.heap.size w wr ∧ ¬ F bb ∧ wr.heap[bb]? = some (.cells cs 29 (0, 0))
theorem JR.below {w wr w' : World} {gp : Nat} {lp lr : List Ob} {rv : Value} (h : JR w gp lp lr rv wr) (b : Below wr.heap.size wr w') : JR w gp lp lr rv w' := by
  obtain ⟨F, h1, h2, h3⟩ := h
  exact ⟨F, h1.below b, h2.below b, below_step h3 b⟩
theorem JJ.below {w wr w' : World} {gp : Nat} {lp lr : List Ob} {rv : Value} {bb : Nat} {cs : Array Value} (h : JJ w gp lp lr rv bb cs wr) (b : Below wr.heap.size wr w') : JJ w gp lp lr rv bb cs w' := by
  obtain ⟨F, h1, h2, h3, h4, h5⟩ := h
  exact ⟨F, h1.below b, h2.below b, below_step h3 b, h4, (b.block bb (Array.getElem?_eq_some_iff.1 h5).1).trans h5⟩
theorem JR.box {w wr : World} {gp : Nat} {lp lr : List Ob} {rv : Value} (h : JR w gp lp lr rv wr) (cs : Array Value) : JJ w gp lp lr rv wr.heap.size cs (wr.alloc (.cells cs 29)) := by
  obtain ⟨F, h1, h2, h3⟩ := h
  have b := below_box wr (.cells cs 29)
  exact ⟨F, h1.below b, h2.below b, below_step h3 b, fun f => by have := (h1.2 _ f).2; omega, heap_alloc_new wr _⟩
theorem JJ.jr {w wr : World} {gp : Nat} {lp lr : List Ob} {rv : Value} {bb : Nat} {cs : Array Value} (h : JJ w gp lp lr rv bb cs wr) : JR w gp lp lr rv wr := by
  obtain ⟨F, h1, h2, h3, _⟩ := h
  exact ⟨F, h1, h2, h3⟩
theorem six_cells {w : World} {g : Nat} {a b c d e f : Value} {t : TypeId} (h : w.heap[g]? = some (.cells #[a, b, c, d, e, f] t (0, 0))) : w.cell? ⟨g, 0, none⟩ = some a ∧ w.cell? ⟨g, 1, none⟩ = some b ∧ w.cell? ⟨g, 2, none⟩ = some c ∧ w.cell? ⟨g, 3, none⟩ = some d ∧ w.cell? ⟨g, 4, none⟩ = some e ∧ w.cell? ⟨g, 5, none⟩ = some f := by
  simp [World.cell?, h]
theorem JJ.cells {w wr : World} {gp : Nat} {lp lr : List Ob} {rv : Value} {bb : Nat} {a b c d e f : Value} (h : JJ w gp lp lr rv bb #[a, b, c, d, e, f] wr) : wr.cell? ⟨bb, 0, none⟩ = some a ∧ wr.cell? ⟨bb, 1, none⟩ = some b ∧ wr.cell? ⟨bb, 2, none⟩ = some c ∧ wr.cell? ⟨bb, 3, none⟩ = some d ∧ wr.cell? ⟨bb, 4, none⟩ = some e ∧ wr.cell? ⟨bb, 5, none⟩ = some f := by
  obtain ⟨F, _, _, _, _, h5⟩ := h
  exact six_cells h5
theorem JR.pool {w wr : World} {gp : Nat} {lp lr : List Ob} {rv : Value} (h : JR w gp lp lr rv wr) (hs : ∀ o ∈ lp, Sh o) : PoolR wr lp gp := by
  obtain ⟨F, h1, _⟩ := h
  exact h1.read hs
theorem JR.objs {w wr : World} {gp : Nat} {lp lr : List Ob} {rv : Value} (h : JR w gp lp lr rv wr) : ObjsR wr lr rv := by
  obtain ⟨F, _, h2, _⟩ := h
  exact h2.read
theorem JR.val {w wr : World} {gp : Nat} {lp lr : List Ob} {rv : Value} (h : JR w gp lp lr rv wr) : ∃ ao c, rv = .slice ao lr.length c := by
  obtain ⟨F, _, h2, _⟩ := h
  exact h2.val
theorem JR.down {w wr : World} {gp : Nat} {lp lr : List Ob} {rv : Value} (h : JR w gp lp lr rv wr) : Below w.heap.size w wr := by
  obtain ⟨F, _, _, h3⟩ := h
  exact h3
theorem jnew_any (w : World) : Calls Tryd.prog 7 #[] w fun e w' => e = .returned (.pointer (some ⟨w.heap.size, 0, none⟩)) ∧ JR w w.heap.size [] [] (.slice none 0 0) w' :=
  (pnew_any w).mono fun _ _ ⟨h1, h2, h3, _⟩ => ⟨h1, _, h2, .inl ⟨rfl, rfl⟩, h3⟩
theorem jrmake_any {w wr : World} {gp : Nat} {lp lr : List Ob} {rv : Value} {bb : Nat} {cs : Array Value} (n m : Nat) (h : JJ w gp lp lr rv bb cs wr) (hn : n ≤ 16) (hl : lr.length ≤ 1000) :
    Calls Tryd.prog 9 #[rv, .agg #[.int .i64 (n : Int), .int .i64 (m : Int)]] wr fun e w' => (∃ v', e = .returned v' ∧ JJ w gp lp (makeF lr (n, m)) v' bb cs w') ∧ Below wr.heap.size wr w' := by
  obtain ⟨F, h1, h2, h3, h4, h5⟩ := h
  refine (rmake_any lr n m F rv wr h2 (fun b hb => (h1.2 b hb).2) hn hl).mono fun e w' q => ?_
  obtain ⟨v', rfl, q2, q3⟩ := q
  exact ⟨⟨v', rfl, F, h1.below q3, q2, below_step h3 q3, h4, (q3.block bb (Array.getElem?_eq_some_iff.1 h5).1).trans h5⟩, q3⟩
theorem jpmake_any {w wr : World} {gp : Nat} {lp lr : List Ob} {rv : Value} {bb : Nat} {cs : Array Value} (n m : Nat) (h : JJ w gp lp lr rv bb cs wr) (hs : ∀ o ∈ lp, Sh o) (hn : n ≤ 16) (hm : m < 2 ^ n) (hl : lp.length ≤ 1000) :
    Calls Tryd.prog 10 #[.pointer (some ⟨gp, 0, none⟩), .agg #[.int .i64 (n : Int), .int .i64 (m : Int)]] wr fun e w' => e = .returned (.int .i64 ((lp.length : Int) + 1)) ∧ JJ w gp (makeF lp (n, m)) lr rv bb cs w' := by
  obtain ⟨F, h1, h2, h3, h4, h5⟩ := h
  have hws := words_le hs
  refine (pmake_any lp n m w.heap.size gp F wr h1 hn hm hl (by omega) h3.size).mono fun e w' q => ?_
  obtain ⟨rfl, q2, q3⟩ := q
  have hb := (Array.getElem?_eq_some_iff.1 h5).1
  refine ⟨rfl, more F wr w', q2, (h2.more (G := more F wr w') (fun b hb => hb.elim .inl (fun z => .inr z.1))).kf (q3.more (fun b hb => .inl hb)), h3.trans (q3.below (fun x hx => (h1.2 x hx).1) h3.size), ?_, (q3.2.2.2.2 bb hb h4).trans h5⟩
  rintro (f | f)
  · exact h4 f
  · omega
theorem jrstore_any {w wr : World} {gp : Nat} {lp lr : List Ob} {rv : Value} {bb : Nat} {cs : Array Value} (id slot : Int) (p : Bool) (n : Int) (h : JJ w gp lp lr rv bb cs wr) (hs : ∀ o ∈ lr, Sh o) (hl : lr.length ≤ 1000) :
    Calls Tryd.prog 13 #[rv, .int .i64 id, .int .i64 slot, .bool p, .int .i64 n] wr fun e w' => ∃ v', e = .returned (.tuple #[v', .int .i64 (trapF has lr id slot p)]) ∧ JJ w gp lp (storeF has lr id slot p n) v' bb cs w' := by
  obtain ⟨F, h1, h2, h3, h4, h5⟩ := h
  refine (rstore_any lr id slot p n F rv wr h2 hs (fun b hb => (h1.2 b hb).2) hl).mono fun e w' q => ?_
  obtain ⟨v', rfl, q2, q3⟩ := q
  exact ⟨v', rfl, F, h1.below q3, q2, below_step h3 q3, h4, (q3.block bb (Array.getElem?_eq_some_iff.1 h5).1).trans h5⟩
theorem jpstore_any {w wr : World} {gp : Nat} {lp lr : List Ob} {rv : Value} {bb : Nat} {cs : Array Value} (id slot : Int) (p : Bool) (n : Int) (h : JJ w gp lp lr rv bb cs wr) (hs : ∀ o ∈ lp, Sh o) (ht : Tab w) :
    Calls Tryd.prog 14 #[.pointer (some ⟨gp, 0, none⟩), .int .i64 id, .int .i64 slot, .bool p, .int .i64 n] wr fun e w' => e = .returned (.int .i64 (trapF has lp id slot p)) ∧ JJ w gp (storeF has lp id slot p n) lr rv bb cs w' := by
  obtain ⟨F, h1, h2, h3, h4, h5⟩ := h
  refine (pstore_any lp id slot p n w.heap.size gp F wr h1 hs (ht.below h3)).mono fun e w' q => ?_
  obtain ⟨rfl, q2, q3⟩ := q
  exact ⟨rfl, F, q2, h2.kf q3, h3.trans (q3.below (fun x hx => (h1.2 x hx).1) h3.size), h4, (q3.2.2.2.2 bb (Array.getElem?_eq_some_iff.1 h5).1 h4).trans h5⟩
theorem jwipe_any {w wr : World} {gp : Nat} {lp lr : List Ob} {rv : Value} {bb : Nat} {cs : Array Value} (h : JJ w gp lp lr rv bb cs wr) :
    Calls Tryd.prog 15 #[.pointer (some ⟨gp, 0, none⟩)] wr fun e w' => e = .returned (.tuple #[]) ∧ JJ w gp [] [] (.slice none 0 0) bb cs w' := by
  obtain ⟨F, h1, h2, h3, h4, h5⟩ := h
  refine (pwipe_any lp w.heap.size gp F wr h1).mono fun e w' q => ?_
  obtain ⟨rfl, q2, q3⟩ := q
  exact ⟨rfl, F, q2, .inl ⟨rfl, rfl⟩, h3.trans (q3.below (fun x hx => (h1.2 x hx).1) h3.size), h4, (q3.2.2.2.2 bb (Array.getElem?_eq_some_iff.1 h5).1 h4).trans h5⟩
end Go.Proofs.YthmeafnofckoiaaDoor
