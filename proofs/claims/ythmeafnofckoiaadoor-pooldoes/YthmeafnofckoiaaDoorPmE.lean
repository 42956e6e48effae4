/- Layer 12, the program over memory: a new pool, a store, and all taken away. -/
import Derived.Test.YthmeafnofckoiaaDoorPmD
namespace Go.Proofs.YthmeafnofckoiaaDoor
open Go Go.RowKit
open Layertwelve (Ob trapF objN loadF storeF slotF wordsF shapeF makeF firstF slotsF goF reachF)

/-- The pool at a block holds these objects, in some blocks. -/
def PoolF (w : World) (B gp : Nat) (l : List Ob) (F : Nat → Prop) : Prop := (∃ v ss, PoolW w B gp l v ss ∧ ∀ b, Foot gp v ss b → F b) ∧ ∀ b, F b → B ≤ b ∧ b < w.heap.size
/-- Some blocks, and those that were made since. -/
def more (F : Nat → Prop) (w w' : World) : Nat → Prop := fun b => F b ∨ (w.heap.size ≤ b ∧ b < w'.heap.size)
theorem PoolF.below {w w' : World} {B gp : Nat} {l : List Ob} {F : Nat → Prop} (h : PoolF w B gp l F) (b : Below w.heap.size w w') : PoolF w' B gp l F := by
  obtain ⟨⟨v, ss, h1, h2⟩, h3⟩ := h
  exact ⟨⟨v, ss, h1.below b, h2⟩, fun k hk => ⟨(h3 k hk).1, Nat.lt_of_lt_of_le (h3 k hk).2 b.size⟩⟩
theorem PoolF.kf {w w' : World} {B gp : Nat} {l : List Ob} {F G : Nat → Prop} (h : PoolF w B gp l F) (k : Kf G w w') (hG : ∀ b, F b → ¬ G b) : PoolF w' B gp l F := by
  obtain ⟨⟨v, ss, h1, h2⟩, h3⟩ := h
  exact ⟨⟨v, ss, h1.same fun b hb => k.2.2.2.2 b (h1.foot hb).2 (hG b (h2 b hb)), h2⟩, fun b hb => ⟨(h3 b hb).1, Nat.lt_of_lt_of_le (h3 b hb).2 k.2.2.2.1⟩⟩
theorem PoolF.read {w : World} {B gp : Nat} {l : List Ob} {F : Nat → Prop} (h : PoolF w B gp l F) (hs : ∀ o ∈ l, Sh o) : PoolR w l gp := by
  obtain ⟨⟨v, ss, h1, _⟩, _⟩ := h
  exact h1.read hs
theorem Kf.more {F G : Nat → Prop} {w w' : World} (h : Kf F w w') (hF : ∀ b, F b → G b) : Kf G w w' := ⟨h.1, h.2.1, h.2.2.1, h.2.2.2.1, fun k hk hg => h.2.2.2.2 k hk (fun f => hg (hF k f))⟩
set_option maxRecDepth 20000 in
theorem pnew_any (w : World) : Calls Tryd.prog 7 #[] w fun e w' => e = .returned (.pointer (some ⟨w.heap.size, 0, none⟩)) ∧ PoolF w' w.heap.size w.heap.size [] (fun b => b = w.heap.size) ∧ Below w.heap.size w w' ∧ w'.heap.size = w.heap.size + 1 := by
  have HP : Hid (PoolF (w.alloc (.cells #[.slice none 0 0, .int .i64 0] 58)) w.heap.size w.heap.size [] (fun b => b = w.heap.size)) := hide ⟨⟨.slice none 0 0, [], ⟨Nat.le_refl _, heap_alloc_new w _, World.ownsRow_nil _ _ _ _, rfl, by simp, fun i o b h => by simp at h⟩, fun b hb => by
    rcases hb with h | h | h
    · exact h
    · cases h
    · cases h⟩, fun b hb => by subst hb; simp⟩
  go_enter Tryd.func7, Tryd.ntmps7
  go_wp2_with fail
  go_ret
  exact ⟨rfl, HP.out, below_box _ _, by simp⟩
theorem store_at {l : List Ob} {i k : Nat} {p : Bool} {n : Int} (h : trapF has l ((i : Int) + 1) k p = 0) : storeF has l ((i : Int) + 1) k p n = l.set i ((objN l ((i : Int) + 1)).1, (objN l ((i : Int) + 1)).2.set k n) := by
  unfold storeF
  rw [if_neg (by simpa using h), show ((i : Int) + 1 - 1).toNat = i from by omega, Int.toNat_natCast]
theorem store_no {l : List Ob} {id slot : Int} {p : Bool} {n : Int} (h : trapF has l id slot p ≠ 0) : storeF has l id slot p n = l := by
  unfold storeF; rw [if_pos h]
set_option maxHeartbeats 1000000 in
set_option maxRecDepth 20000 in
theorem pstore_any (l : List Ob) (id slot : Int) (p : Bool) (n : Int) (B gp : Nat) (F : Nat → Prop) (w : World) (h : PoolF w B gp l F) (hs : ∀ o ∈ l, Sh o) (ht : Tab w) :
    Calls Tryd.prog 14 #[.pointer (some ⟨gp, 0, none⟩), .int .i64 id, .int .i64 slot, .bool p, .int .i64 n] w fun e w' => e = .returned (.int .i64 (trapF has l id slot p)) ∧ PoolF w' B gp (storeF has l id slot p n) F ∧ Kf F w w' := by
  have hr := h.read hs
  by_cases h0 : trapF has l id slot p = 0
  · obtain ⟨i, k, rfl, rfl, hi, hk⟩ := trap_split hs h0
    obtain ⟨⟨v, ss, h1, h2⟩, h3⟩ := h
    have e := Layertwelve.objN_mem (l := l) (id := (i : Int) + 1) (by omega) (by omega)
    rw [show ((i : Int) + 1 - 1).toNat = i from by omega] at e
    obtain ⟨b, hb, hB, hblk⟩ := h1.at e
    have CH := hide (held_yes l i k p gp b 0 w hr hs ht h0 (h1.slotAt hi hb))
    rw [Nat.zero_add] at CH
    rw [store_at h0, h0]
    have hbz := (Array.getElem?_eq_some_iff.1 hblk).1
    obtain ⟨c0, f0⟩ := row_cell hblk (show (objN l ((i : Int) + 1)).2[k]? = some ((objN l ((i : Int) + 1)).2.getD k 0) by rw [List.getD_eq_getElem?_getD, List.getElem?_eq_getElem hk]; rfl)
    have HC := hide (fun w' (bl : Below w.heap.size w w') => And.intro ((bl.cell (p := ⟨b, k, none⟩) hbz).trans c0) ((bl.frozen (p := ⟨b, k, none⟩) hbz).trans f0))
    have HE : Hid (∀ w1, Below w.heap.size w w1 → PoolF (w1.setCell ⟨b, k, none⟩ (.int .i64 n)) B gp (l.set i ((objN l ((i : Int) + 1)).1, (objN l ((i : Int) + 1)).2.set k n)) F ∧ Kf F w (w1.setCell ⟨b, k, none⟩ (.int .i64 n))) := hide (fun w1 bl => by
      obtain ⟨q1, q2⟩ := (h1.below bl).store (k := k) (n := n) e hb
      refine ⟨⟨⟨v, ss, q1, h2⟩, fun b hb => ⟨(h3 b hb).1, ?_⟩⟩, ?_⟩
      · have := (h3 b hb).2
        have := bl.size
        simp; omega
      · exact (Kf.of_below bl).trans (q2.more h2) (fun x hx => .inl hx))
    clear h1 h2 h3 hr hs ht h0 e hb hB hblk c0 f0
    generalize (objN l ((i : Int) + 1)).2.getD k 0 = z at *
    generalize l.set i ((objN l ((i : Int) + 1)).1, (objN l ((i : Int) + 1)).2.set k n) = L2 at *
    clear hk hi
    go_enter Tryd.func14, Tryd.ntmps14
    go_wp2_with fail
    refine CH.out.mono ?_; rintro e w1 ⟨rfl, b1⟩
    obtain ⟨c0, f0⟩ := HC.out w1 b1
    have HE2 := hide (HE.out w1 b1)
    clear b1 CH HC HE
    go_wp2_with fail
    go_ret
    exact ⟨rfl, HE2.out⟩
  · rw [store_no h0]
    have CH := hide (held_no l id slot p gp w hr hs ht h0)
    have HE := hide (fun w1 (bl : Below w.heap.size w w1) => And.intro (h.below bl) (Kf.of_below (F := F) bl))
    generalize trapF has l id slot p = t at *
    have k1 : (t == 0) = false := by simpa using h0
    have k2 : (t != 0) = true := by simpa using h0
    clear h hs ht h0 hr
    go_enter Tryd.func14, Tryd.ntmps14
    go_wp2_with fail
    refine CH.out.mono ?_; rintro e w1 ⟨rfl, b1⟩
    have HE2 := hide (HE.out w1 b1)
    clear b1 CH HE
    go_wp2_with fail
    go_ret
    exact ⟨rfl, HE2.out⟩
end Go.Proofs.YthmeafnofckoiaaDoor
