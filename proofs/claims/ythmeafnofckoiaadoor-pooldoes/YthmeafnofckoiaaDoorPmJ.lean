/- Layer 12, the program's pool in memory of its own. -/
import Derived.Test.YthmeafnofckoiaaDoorPmG
import Derived.Test.YthmeafnofckoiaaDoorPmH
namespace Go.Proofs.YthmeafnofckoiaaDoor
open Go Go.RowKit
open Layertwelve (Ob trapF objN loadF storeF slotF wordsF shapeF makeF firstF slotsF goF reachF Ok)

/-- The pool holds these objects, in memory of its own, and all that there was is as it was. -/
def PB (w : World) (gp : Nat) (l : List Ob) (wr : World) : Prop := (∃ F, PoolF wr w.heap.size gp l F) ∧ Below w.heap.size w wr
theorem PB.below {w wr w' : World} {gp : Nat} {l : List Ob} (h : PB w gp l wr) (b : Below wr.heap.size wr w') : PB w gp l w' := by
  obtain ⟨⟨F, h1⟩, h2⟩ := h
  exact ⟨⟨F, h1.below b⟩, below_step h2 b⟩
theorem PB.read {w wr : World} {gp : Nat} {l : List Ob} (h : PB w gp l wr) (hs : ∀ o ∈ l, Sh o) : PoolR wr l gp := by
  obtain ⟨⟨F, h1⟩, _⟩ := h
  exact h1.read hs
theorem PB.kf {w wr w' : World} {gp : Nat} {l l' : List Ob} {F G : Nat → Prop} (h : PoolF wr w.heap.size gp l F) (b : Below w.heap.size w wr) (k : Kf F wr w') (h' : PoolF w' w.heap.size gp l' G) : PB w gp l' w' :=
  ⟨⟨G, h'⟩, b.trans (k.below (fun x hx => (h.2 x hx).1) b.size)⟩
theorem sh_make {l : List Ob} {n m : Nat} (hs : ∀ o ∈ l, Sh o) (hn : n ≤ 16) (hm : m < 2 ^ n) : ∀ o ∈ makeF l (n, m), Sh o := by
  intro o ho
  rcases List.mem_append.1 ho with ho | ho
  · exact hs o ho
  · rw [List.mem_singleton.1 ho]; exact ⟨hn, hm, by simp⟩
theorem sh_store {l : List Ob} {id slot : Int} {p : Bool} {n : Int} (hs : ∀ o ∈ l, Sh o) : ∀ o ∈ storeF has l id slot p n, Sh o := by
  unfold storeF
  split
  · exact hs
  · rename_i ht
    intro o ho
    rcases List.mem_or_eq_of_mem_set ho with ho | ho
    · exact hs o ho
    · rw [ho]
      have hi := Layertwelve.trap_in (show trapF has l id slot p = 0 from Classical.byContradiction ht)
      have := hs _ (List.mem_of_getElem? (Layertwelve.objN_mem hi.1 hi.2.1))
      exact ⟨this.1, this.2.1, by simpa using this.2.2⟩
theorem words_le {l : List Ob} (hs : ∀ o ∈ l, Sh o) : wordsF l ≤ l.length * 17 := by
  induction l with
  | nil => simp [wordsF]
  | cons o l ih =>
    have h1 := hs o (by simp)
    have h2 := ih (fun x hx => hs x (by simp [hx]))
    unfold wordsF at h2 ⊢
    simp only [List.map_cons, List.sum_cons, List.length_cons]
    have : o.2.length ≤ 16 := by rw [h1.2.2]; exact h1.1
    omega
theorem bnew_any (w : World) : Calls Tryd.prog 7 #[] w fun e w' => e = .returned (.pointer (some ⟨w.heap.size, 0, none⟩)) ∧ PB w w.heap.size [] w' :=
  (pnew_any w).mono fun _ _ ⟨h1, h2, h3, _⟩ => ⟨h1, ⟨_, h2⟩, h3⟩
theorem bmake_any {w wr : World} {gp : Nat} {l : List Ob} (n m : Nat) (h : PB w gp l wr) (hs : ∀ o ∈ l, Sh o) (hn : n ≤ 16) (hm : m < 2 ^ n) (hl : l.length ≤ 1000) :
    Calls Tryd.prog 10 #[.pointer (some ⟨gp, 0, none⟩), .agg #[.int .i64 (n : Int), .int .i64 (m : Int)]] wr fun e w' => e = .returned (.int .i64 ((l.length : Int) + 1)) ∧ PB w gp (makeF l (n, m)) w' := by
  obtain ⟨⟨F, h1⟩, h2⟩ := h
  exact (pmake_any l n m _ gp F wr h1 hn hm hl (by have := words_le hs; omega) h2.size).mono fun _ _ ⟨k1, k2, k3⟩ => ⟨k1, PB.kf h1 h2 k3 k2⟩
theorem bstore_any {w wr : World} {gp : Nat} {l : List Ob} (id slot : Int) (p : Bool) (n : Int) (h : PB w gp l wr) (hs : ∀ o ∈ l, Sh o) (ht : Tab w) :
    Calls Tryd.prog 14 #[.pointer (some ⟨gp, 0, none⟩), .int .i64 id, .int .i64 slot, .bool p, .int .i64 n] wr fun e w' => e = .returned (.int .i64 (trapF has l id slot p)) ∧ PB w gp (storeF has l id slot p n) w' := by
  obtain ⟨⟨F, h1⟩, h2⟩ := h
  exact (pstore_any l id slot p n _ gp F wr h1 hs (ht.below h2)).mono fun _ _ ⟨k1, k2, k3⟩ => ⟨k1, PB.kf h1 h2 k3 k2⟩
theorem bload_any {w wr : World} {gp : Nat} {l : List Ob} (id slot : Int) (p : Bool) (h : PB w gp l wr) (hs : ∀ o ∈ l, Sh o) (ht : Tab w) :
    Calls Tryd.prog 11 #[.pointer (some ⟨gp, 0, none⟩), .int .i64 id, .int .i64 slot, .bool p] wr fun e w' => e = .returned (.tuple #[.int .i64 (loadF has l id slot p).1, .int .i64 (loadF has l id slot p).2]) ∧ PB w gp l w' :=
  (pload_any l id slot p gp wr (h.read hs) hs (ht.below h.2)).mono fun _ _ ⟨k1, k2⟩ => ⟨k1, h.below k2⟩
theorem bslot_any {w wr : World} {gp : Nat} {l : List Ob} (id slot : Int) (h : PB w gp l wr) (hs : ∀ o ∈ l, Sh o) :
    Calls Tryd.prog 19 #[.pointer (some ⟨gp, 0, none⟩), .int .i64 id, .int .i64 slot] wr fun e w' => e = .returned (.int .i64 (slotF has l id slot)) ∧ PB w gp l w' :=
  (pslot_any l id slot gp wr (h.read hs) hs).mono fun _ _ ⟨k1, k2⟩ => ⟨k1, h.below k2⟩
theorem bshape_any {w wr : World} {gp : Nat} {l : List Ob} (id : Int) (h : PB w gp l wr) (hs : ∀ o ∈ l, Sh o) :
    Calls Tryd.prog 21 #[.pointer (some ⟨gp, 0, none⟩), .int .i64 id] wr fun e w' => e = .returned (.agg #[.int .i64 ((shapeF l id).1 : Int), .int .i64 ((shapeF l id).2 : Int)]) ∧ PB w gp l w' :=
  (pshape_any l id gp wr (h.read hs)).mono fun _ _ ⟨k1, k2⟩ => ⟨k1, h.below k2⟩
end Go.Proofs.YthmeafnofckoiaaDoor
