/- The law ArithTrue, whatever it is given. -/
import Derived.Test.YthgockhdkmijoaaWalksH
import Derived.Test.YthgockhdkmijoaaTrueMath
namespace Go.Proofs.Ythgockhdkmijoaa
open Go Go.RowKit

theorem Pair.put0 {w : World} {g : Nat} {a b : Value} (h : Pair w g a b) (u : Value) : Pair (w.setCell ⟨g, 0, none⟩ u) g u b := by
  obtain ⟨c0, c1, f0, f1, z⟩ := h
  refine ⟨World.cell?_setCell_same _ _ _ c0, ?_, ?_, ?_, by simpa using z⟩
  · rw [World.cell?_setCell_other _ _ _ _ (by simp)]; exact c1
  · rw [World.frozen?_setCell]; exact f0
  · rw [World.frozen?_setCell]; exact f1
theorem Pair.put1 {w : World} {g : Nat} {a b : Value} (h : Pair w g a b) (u : Value) : Pair (w.setCell ⟨g, 1, none⟩ u) g a u := by
  obtain ⟨c0, c1, f0, f1, z⟩ := h
  refine ⟨?_, World.cell?_setCell_same _ _ _ c1, ?_, ?_, by simpa using z⟩
  · rw [World.cell?_setCell_other _ _ _ _ (by simp)]; exact c0
  · rw [World.frozen?_setCell]; exact f0
  · rw [World.frozen?_setCell]; exact f1
theorem Pair.far {w : World} {g h : Nat} {a b : Value} (p : Pair w g a b) (hg : g ≠ h) (j : Nat) (u : Value) : Pair (w.setCell ⟨h, j, none⟩ u) g a b := by
  obtain ⟨c0, c1, f0, f1, z⟩ := p
  refine ⟨?_, ?_, ?_, ?_, by simpa using z⟩
  · rw [World.cell?_setCell_other _ _ _ _ (fun e => hg (congrArg Addr.block e).symm)]; exact c0
  · rw [World.cell?_setCell_other _ _ _ _ (fun e => hg (congrArg Addr.block e).symm)]; exact c1
  · rw [World.frozen?_setCell]; exact f0
  · rw [World.frozen?_setCell]; exact f1

/-- The three arrays of the law: which numbers are known, these numbers, and the numbers that stand. -/
def Three (w : World) (g : Nat) (k0 k1 : Bool) (n0 n1 a b : Int) : Prop :=
  Pair w g (.bool k0) (.bool k1) ∧ Pair w (g + 1) (.int .i64 n0) (.int .i64 n1) ∧ Pair w (g + 1 + 1) (.int .i64 a) (.int .i64 b)
theorem Three.below {w w1 : World} {g : Nat} {k0 k1 : Bool} {n0 n1 a b : Int} (h : Three w g k0 k1 n0 n1 a b) (hb : Below w.heap.size w w1) : Three w1 g k0 k1 n0 n1 a b :=
  ⟨h.1.below hb, h.2.1.below hb, h.2.2.below hb⟩
theorem Three.put0 {w : World} {g : Nat} {k0 k1 : Bool} {n0 n1 a b : Int} (h : Three w g k0 k1 n0 n1 a b) (x : Int) : Three (w.setCell ⟨g + 1 + 1, 0, none⟩ (.int .i64 x)) g k0 k1 n0 n1 x b :=
  ⟨h.1.far (by omega) _ _, h.2.1.far (by omega) _ _, h.2.2.put0 _⟩
theorem Three.put1 {w : World} {g : Nat} {k0 k1 : Bool} {n0 n1 a b : Int} (h : Three w g k0 k1 n0 n1 a b) (x : Int) : Three (w.setCell ⟨g + 1 + 1, 1, none⟩ (.int .i64 x)) g k0 k1 n0 n1 a x :=
  ⟨h.1.far (by omega) _ _, h.2.1.far (by omega) _ _, h.2.2.put1 _⟩

/-- How far the loop has come. -/
def Goes (w : World) (k0 k1 : Bool) (n0 n1 a b : Int) (i : Value) (wr : World) : Prop :=
  Below w.heap.size w wr ∧ ((i = .int .i64 0 ∧ Three wr w.heap.size k0 k1 n0 n1 a b) ∨ (i = .int .i64 1 ∧ Three wr w.heap.size k0 k1 n0 n1 (told k0 n0 a) b) ∨ (i = .int .i64 2 ∧ Three wr w.heap.size k0 k1 n0 n1 (told k0 n0 a) (told k1 n1 b)))

theorem three_new (w : World) (k0 k1 : Bool) (n0 n1 a b : Int) :
    Three (((w.alloc (.cells #[.bool k0, .bool k1] 27)).alloc (.cells #[.int .i64 n0, .int .i64 n1] 28)).alloc (.cells #[.int .i64 a, .int .i64 b] 28)) w.heap.size k0 k1 n0 n1 a b :=
  ⟨(boxes w _ _ _ _).1.alloc _, (boxes w _ _ _ _).2.alloc _, by simpa using Pair.new ((w.alloc (.cells #[.bool k0, .bool k1] 27)).alloc (.cells #[.int .i64 n0, .int .i64 n1] 28)) 28⟩
theorem below_put {w wr : World} (h : Below w.heap.size w wr) (j : Nat) (v : Value) : Below w.heap.size w (wr.setCell ⟨w.heap.size + 1 + 1, j, none⟩ v) := h.setCell (by simp; omega) _

theorem true_any (op : Int) (k0 k1 : Bool) (n0 n1 a b : Int) (w : World) (ha : In64 a) (hb : In64 b) :
    Calls Try.prog 5 #[.int .i64 op, .agg #[.bool k0, .bool k1], .agg #[.int .i64 n0, .int .i64 n1], .int .i64 a, .int .i64 b] w fun e w' => e = .returned (.bool true) ∧ Below w.heap.size w w' := by
  have HW := hide (known_ways op k0 k1 n0 n1 a b ha hb)
  clear ha hb
  go_enter Try.func5, Try.ntmps5
  go_wp2_with fail
  go_loopw [12] (Goes w k0 k1 n0 n1 a b) (fun i _ => 2 - (intOf i).toNat)
  case atStart => exact ⟨((below_box2 w _ _).alloc (by simp; omega) _), .inl ⟨rfl, three_new w k0 k1 n0 n1 a b⟩⟩
  case round =>
    obtain ⟨B, ⟨rfl, T⟩ | ⟨rfl, T⟩ | ⟨rfl, T⟩⟩ := hrel
    · have TT := hide T
      obtain ⟨⟨c0, c1, _, _, _⟩, ⟨e0, e1, _, _, _⟩, ⟨l0, l1, f0, f1, _⟩⟩ := T
      replace B := hide B
      cases k0
      · go_wp2
        go_roundw
        case rel => exact ⟨B.out, .inr (.inl ⟨rfl, TT.out⟩)⟩
        case measure => simp [intOf]
      · go_wp2
        go_roundw
        case rel => exact ⟨below_put B.out _ _, .inr (.inl ⟨rfl, TT.out.put0 _⟩)⟩
        case measure => simp [intOf]
    · have TT := hide T
      obtain ⟨⟨c0, c1, _, _, _⟩, ⟨e0, e1, _, _, _⟩, ⟨l0, l1, f0, f1, _⟩⟩ := T
      replace B := hide B
      cases k1
      · go_wp2
        go_roundw
        case rel => exact ⟨B.out, .inr (.inr ⟨rfl, TT.out⟩)⟩
        case measure => simp [intOf]
      · go_wp2
        go_roundw
        case rel => exact ⟨below_put B.out _ _, .inr (.inr ⟨rfl, TT.out.put1 _⟩)⟩
        case measure => simp [intOf]
    · have TT := hide T
      obtain ⟨⟨c0, c1, _, _, _⟩, ⟨e0, e1, _, _, _⟩, ⟨l0, l1, f0, f1, _⟩⟩ := T
      replace B := hide B
      rcases HW.out with hs | ⟨hs, ht, hm⟩ | ⟨hs, ht, hm⟩ | ⟨y, hs, ht, hm⟩
      · replace hs := hide hs
        go_wp2_with fail
        refine (simple_as hs.out _).mono ?_; rintro e w1 ⟨rfl, b1⟩
        replace b1 := hide b1
        go_wp2_with fail
        refine (works_any _).mono ?_; rintro e w2 ⟨rfl, b2⟩
        replace b2 := hide b2
        go_wp2_with fail
        go_ret
        exact ⟨rfl, below_step (below_step B.out b1.out) b2.out⟩
      · replace hs := hide hs
        replace ht := hide ht
        replace hm := hide hm
        go_wp2_with fail
        refine (simple_as hs.out _).mono ?_; rintro e w1 ⟨rfl, b1⟩
        obtain ⟨_, _, ⟨m0, m1, _, _, _⟩⟩ := TT.out.below b1
        replace b1 := hide b1
        go_wp2_with fail
        refine (do_as hm.out ht.out _).mono ?_; rintro e w2 ⟨rfl, rfl⟩
        go_wp2_with fail
        refine (works_any _).mono ?_; rintro e w2 ⟨rfl, b2⟩
        replace b2 := hide b2
        go_wp2_with fail
        go_ret
        exact ⟨rfl, below_step (below_step B.out b1.out) b2.out⟩
      · replace hs := hide hs
        replace ht := hide ht
        replace hm := hide hm
        go_wp2_with fail
        refine (simple_as hs.out _).mono ?_; rintro e w1 ⟨rfl, b1⟩
        obtain ⟨_, _, ⟨m0, m1, _, _, _⟩⟩ := TT.out.below b1
        replace b1 := hide b1
        go_wp2_with fail
        refine (do_as hm.out ht.out _).mono ?_; rintro e w2 ⟨rfl, rfl⟩
        go_wp2_with fail
        refine (works_any _).mono ?_; rintro e w2 ⟨rfl, b2⟩
        replace b2 := hide b2
        go_wp2_with fail
        go_ret
        exact ⟨rfl, below_step (below_step B.out b1.out) b2.out⟩
      · replace hs := hide hs
        replace ht := hide ht
        replace hm := hide hm
        go_wp2_with fail
        refine (simple_as hs.out _).mono ?_; rintro e w1 ⟨rfl, b1⟩
        obtain ⟨_, _, ⟨m0, m1, _, _, _⟩⟩ := TT.out.below b1
        replace b1 := hide b1
        go_wp2_with fail
        refine (do_as hm.out ht.out _).mono ?_; rintro e w2 ⟨rfl, rfl⟩
        go_wp2_with fail
        refine (works_any _).mono ?_; rintro e w2 ⟨rfl, b2⟩
        replace b2 := hide b2
        go_wp2_with fail
        go_ret
        exact ⟨rfl, below_step (below_step B.out b1.out) b2.out⟩
end Go.Proofs.Ythgockhdkmijoaa
