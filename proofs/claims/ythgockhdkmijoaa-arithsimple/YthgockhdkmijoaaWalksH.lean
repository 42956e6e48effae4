/- The laws ArithSimple and ArithTrue, whatever they are given. -/
import Derived.Test.YthgockhdkmijoaaWalksE
import Derived.Test.YthgockhdkmijoaaWalksF
namespace Go.Proofs.Ythgockhdkmijoaa
open Go Go.RowKit

theorem simple_as {op : Int} {k0 k1 : Bool} {n0 n1 x y : Int} (h : simple op k0 k1 n0 n1 = (x, y)) (w : World) :
    Calls Try.prog 14 #[.int .i64 op, .agg #[.bool k0, .bool k1], .agg #[.int .i64 n0, .int .i64 n1]] w fun e w' => e = .returned (.tuple #[.int .i64 x, .int .i64 y]) ∧ Below w.heap.size w w' := by
  have := simple_all op k0 k1 n0 n1 w
  unfold SimpleAt at this
  rw [h] at this
  exact this
theorem refSimple_as {op : Int} {k0 k1 : Bool} {n0 n1 x y : Int} (h : simple op k0 k1 n0 n1 = (x, y)) (w : World) :
    Calls Try.prog 15 #[.int .i64 op, .agg #[.bool k0, .bool k1], .agg #[.int .i64 n0, .int .i64 n1]] w fun e w' => e = .returned (.tuple #[.int .i64 x, .int .i64 y]) ∧ Below w.heap.size w w' := by
  have := refSimple_all op k0 k1 n0 n1 w
  unfold SimpleAt at this
  rw [h] at this
  exact this

theorem simpleLaw_any (op : Int) (k0 k1 : Bool) (n0 n1 : Int) (w : World) :
    Calls Try.prog 4 #[.int .i64 op, .agg #[.bool k0, .bool k1], .agg #[.int .i64 n0, .int .i64 n1]] w fun e w' => e = .returned (.bool true) ∧ Below w.heap.size w w' := by
  obtain ⟨⟨x, y⟩, h⟩ : ∃ r, simple op k0 k1 n0 n1 = r := ⟨_, rfl⟩
  have HS := hide h
  have HB := hide (boxes w (.bool k0) (.bool k1) (.int .i64 n0) (.int .i64 n1))
  clear h
  go_enter Try.func4, Try.ntmps4
  go_wp2_with fail
  refine (simple_as HS.out _).mono ?_; rintro e w1 ⟨rfl, b1⟩
  have P1 := HB.out.1.below b1
  have Q1 := HB.out.2.below b1
  obtain ⟨c0, c1, _, _, z0⟩ := P1
  obtain ⟨e0, e1, _, _, z1⟩ := Q1
  replace b1 := hide b1
  go_wp2_with fail
  refine (refSimple_as HS.out _).mono ?_; rintro e w2 ⟨rfl, b2⟩
  replace b2 := hide b2
  go_wp2_with fail
  refine (works_any _).mono ?_; rintro e w3 ⟨rfl, b3⟩
  replace b3 := hide b3
  go_wp2_with fail
  go_ret
  exact ⟨rfl, below_step (below_step (below_new (below_new b1.out)) b2.out) b3.out⟩
end Go.Proofs.Ythgockhdkmijoaa
