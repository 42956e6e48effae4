/- What Simple answers, a case a walk: the operation, which numbers are known, and whether the one that is known is 0, 1 or another. Written by program. -/
import Derived.Test.YthgockhdkmijoaaWalksB
namespace Go.Proofs.Ythgockhdkmijoaa
open Go Go.RowKit

/-- A call of Simple (of the program or of the reference) answers as it should, and all that there was is as it was. -/
def SimpleAt (f : FuncId) (op : Int) (k0 k1 : Bool) (n0 n1 : Int) (w : World) : Prop :=
  Calls Try.prog f #[.int .i64 op, .agg #[.bool k0, .bool k1], .agg #[.int .i64 n0, .int .i64 n1]] w fun e w' => e = .returned (.tuple #[.int .i64 (simple op k0 k1 n0 n1).1, .int .i64 (simple op k0 k1 n0 n1).2]) ∧ Below w.heap.size w w'

theorem is_as {op : Int} {r : Bool} (h : isOp op = r) (w : World) : Calls Try.prog 9 #[.int .i64 op] w fun e w' => e = .returned (.bool r) ∧ w' = w := h ▸ is_any op w
theorem refIs_as {op : Int} {r : Bool} (h : isOp op = r) (w : World) : Calls Try.prog 10 #[.int .i64 op] w fun e w' => e = .returned (.bool r) ∧ w' = w := h ▸ refIs_any op w
theorem make_func (fn : Fn) (first cap : Array Value) (w : World) : (Instr.makeFunc fn first cap).run Try.prog w = .ok (.func fn first cap) w := rfl
theorem boxes (w : World) (a b c d : Value) : Pair ((w.alloc (.cells #[a, b] 27)).alloc (.cells #[c, d] 28)) w.heap.size a b ∧ Pair ((w.alloc (.cells #[a, b] 27)).alloc (.cells #[c, d] 28)) (w.heap.size + 1) c d :=
  ⟨(Pair.new w 27).alloc _, by simpa using Pair.new (w.alloc (.cells #[a, b] 27)) 28⟩

theorem s_2_nn (n0 n1 : Int) (w : World) : SimpleAt 14 2 false false n0 n1 w := by
  have HS : Hid (simple 2 false false n0 n1 = (-1, 0)) := hide (by simp [simple, isOp])
  have hmf := make_func
  have HB := hide (boxes w (.bool false) (.bool false) (.int .i64 n0) (.int .i64 n1))
  unfold SimpleAt
  go_enter Try.func14, Try.ntmps14
  go_wp2_with fail
  refine (is_as (r := true) rfl _).mono ?_; rintro e w1 ⟨rfl, rfl⟩
  go_wp2_with fail
  refine (surely0 0 false HB.out.1 HB.out.2 (rfl)).mono ?_; rintro e w1 ⟨rfl, rfl⟩
  go_wp2_with fail
  refine (surely1 0 false HB.out.1 HB.out.2 (rfl)).mono ?_; rintro e w1 ⟨rfl, rfl⟩
  go_wp2_with fail
  go_ret2
  exact ⟨by rw [HS.out]; rfl, below_box2 _ _ _⟩

theorem s_2_kn0 (n1 : Int) (w : World) : SimpleAt 14 2 true false 0 n1 w := by
  have HS : Hid (simple 2 true false 0 n1 = (1, 0)) := hide (by simp [simple, isOp])
  have hmf := make_func
  have HB := hide (boxes w (.bool true) (.bool false) (.int .i64 0) (.int .i64 n1))
  unfold SimpleAt
  go_enter Try.func14, Try.ntmps14
  go_wp2_with fail
  refine (is_as (r := true) rfl _).mono ?_; rintro e w1 ⟨rfl, rfl⟩
  go_wp2_with fail
  refine (surely0 0 true HB.out.1 HB.out.2 (rfl)).mono ?_; rintro e w1 ⟨rfl, rfl⟩
  go_wp2_with fail
  go_ret2
  exact ⟨by rw [HS.out]; rfl, below_box2 _ _ _⟩

theorem s_2_kna (n0 n1 : Int) (w : World) (h0 : n0 ≠ 0) : SimpleAt 14 2 true false n0 n1 w := by
  have HS : Hid (simple 2 true false n0 n1 = (-1, 0)) := hide (by simp [simple, isOp, h0])
  have hmf := make_func
  have HB := hide (boxes w (.bool true) (.bool false) (.int .i64 n0) (.int .i64 n1))
  unfold SimpleAt
  go_enter Try.func14, Try.ntmps14
  go_wp2_with fail
  refine (is_as (r := true) rfl _).mono ?_; rintro e w1 ⟨rfl, rfl⟩
  go_wp2_with fail
  refine (surely0 0 false HB.out.1 HB.out.2 (by simp; assumption)).mono ?_; rintro e w1 ⟨rfl, rfl⟩
  go_wp2_with fail
  refine (surely1 0 false HB.out.1 HB.out.2 (rfl)).mono ?_; rintro e w1 ⟨rfl, rfl⟩
  go_wp2_with fail
  go_ret2
  exact ⟨by rw [HS.out]; rfl, below_box2 _ _ _⟩

theorem s_2_nk0 (n0 : Int) (w : World) : SimpleAt 14 2 false true n0 0 w := by
  have HS : Hid (simple 2 false true n0 0 = (0, 0)) := hide (by simp [simple, isOp])
  have hmf := make_func
  have HB := hide (boxes w (.bool false) (.bool true) (.int .i64 n0) (.int .i64 0))
  unfold SimpleAt
  go_enter Try.func14, Try.ntmps14
  go_wp2_with fail
  refine (is_as (r := true) rfl _).mono ?_; rintro e w1 ⟨rfl, rfl⟩
  go_wp2_with fail
  refine (surely0 0 false HB.out.1 HB.out.2 (rfl)).mono ?_; rintro e w1 ⟨rfl, rfl⟩
  go_wp2_with fail
  refine (surely1 0 true HB.out.1 HB.out.2 (rfl)).mono ?_; rintro e w1 ⟨rfl, rfl⟩
  go_wp2_with fail
  go_ret2
  exact ⟨by rw [HS.out]; rfl, below_box2 _ _ _⟩

theorem s_2_nka (n0 n1 : Int) (w : World) (h0 : n1 ≠ 0) : SimpleAt 14 2 false true n0 n1 w := by
  have HS : Hid (simple 2 false true n0 n1 = (-1, 0)) := hide (by simp [simple, isOp, h0])
  have hmf := make_func
  have HB := hide (boxes w (.bool false) (.bool true) (.int .i64 n0) (.int .i64 n1))
  unfold SimpleAt
  go_enter Try.func14, Try.ntmps14
  go_wp2_with fail
  refine (is_as (r := true) rfl _).mono ?_; rintro e w1 ⟨rfl, rfl⟩
  go_wp2_with fail
  refine (surely0 0 false HB.out.1 HB.out.2 (rfl)).mono ?_; rintro e w1 ⟨rfl, rfl⟩
  go_wp2_with fail
  refine (surely1 0 false HB.out.1 HB.out.2 (by simp; assumption)).mono ?_; rintro e w1 ⟨rfl, rfl⟩
  go_wp2_with fail
  go_ret2
  exact ⟨by rw [HS.out]; rfl, below_box2 _ _ _⟩

theorem s_3_nn (n0 n1 : Int) (w : World) : SimpleAt 14 3 false false n0 n1 w := by
  have HS : Hid (simple 3 false false n0 n1 = (-1, 0)) := hide (by simp [simple, isOp])
  have hmf := make_func
  have HB := hide (boxes w (.bool false) (.bool false) (.int .i64 n0) (.int .i64 n1))
  unfold SimpleAt
  go_enter Try.func14, Try.ntmps14
  go_wp2_with fail
  refine (is_as (r := true) rfl _).mono ?_; rintro e w1 ⟨rfl, rfl⟩
  go_wp2_with fail
  refine (surely1 0 false HB.out.1 HB.out.2 (rfl)).mono ?_; rintro e w1 ⟨rfl, rfl⟩
  go_wp2_with fail
  go_ret2
  exact ⟨by rw [HS.out]; rfl, below_box2 _ _ _⟩

theorem s_3_kn (n0 n1 : Int) (w : World) : SimpleAt 14 3 true false n0 n1 w := by
  have HS : Hid (simple 3 true false n0 n1 = (-1, 0)) := hide (by simp [simple, isOp])
  have hmf := make_func
  have HB := hide (boxes w (.bool true) (.bool false) (.int .i64 n0) (.int .i64 n1))
  unfold SimpleAt
  go_enter Try.func14, Try.ntmps14
  go_wp2_with fail
  refine (is_as (r := true) rfl _).mono ?_; rintro e w1 ⟨rfl, rfl⟩
  go_wp2_with fail
  refine (surely1 0 false HB.out.1 HB.out.2 (rfl)).mono ?_; rintro e w1 ⟨rfl, rfl⟩
  go_wp2_with fail
  go_ret2
  exact ⟨by rw [HS.out]; rfl, below_box2 _ _ _⟩

theorem s_3_nk0 (n0 : Int) (w : World) : SimpleAt 14 3 false true n0 0 w := by
  have HS : Hid (simple 3 false true n0 0 = (0, 0)) := hide (by simp [simple, isOp])
  have hmf := make_func
  have HB := hide (boxes w (.bool false) (.bool true) (.int .i64 n0) (.int .i64 0))
  unfold SimpleAt
  go_enter Try.func14, Try.ntmps14
  go_wp2_with fail
  refine (is_as (r := true) rfl _).mono ?_; rintro e w1 ⟨rfl, rfl⟩
  go_wp2_with fail
  refine (surely1 0 true HB.out.1 HB.out.2 (rfl)).mono ?_; rintro e w1 ⟨rfl, rfl⟩
  go_wp2_with fail
  go_ret2
  exact ⟨by rw [HS.out]; rfl, below_box2 _ _ _⟩

theorem s_3_nka (n0 n1 : Int) (w : World) (h0 : n1 ≠ 0) : SimpleAt 14 3 false true n0 n1 w := by
  have HS : Hid (simple 3 false true n0 n1 = (-1, 0)) := hide (by simp [simple, isOp, h0])
  have hmf := make_func
  have HB := hide (boxes w (.bool false) (.bool true) (.int .i64 n0) (.int .i64 n1))
  unfold SimpleAt
  go_enter Try.func14, Try.ntmps14
  go_wp2_with fail
  refine (is_as (r := true) rfl _).mono ?_; rintro e w1 ⟨rfl, rfl⟩
  go_wp2_with fail
  refine (surely1 0 false HB.out.1 HB.out.2 (by simp; assumption)).mono ?_; rintro e w1 ⟨rfl, rfl⟩
  go_wp2_with fail
  go_ret2
  exact ⟨by rw [HS.out]; rfl, below_box2 _ _ _⟩

theorem s_4_nn (n0 n1 : Int) (w : World) : SimpleAt 14 4 false false n0 n1 w := by
  have HS : Hid (simple 4 false false n0 n1 = (-1, 0)) := hide (by simp [simple, isOp])
  have hmf := make_func
  have HB := hide (boxes w (.bool false) (.bool false) (.int .i64 n0) (.int .i64 n1))
  unfold SimpleAt
  go_enter Try.func14, Try.ntmps14
  go_wp2_with fail
  refine (is_as (r := true) rfl _).mono ?_; rintro e w1 ⟨rfl, rfl⟩
  go_wp2_with fail
  refine (surely0 1 false HB.out.1 HB.out.2 (rfl)).mono ?_; rintro e w1 ⟨rfl, rfl⟩
  go_wp2_with fail
  refine (surely1 1 false HB.out.1 HB.out.2 (rfl)).mono ?_; rintro e w1 ⟨rfl, rfl⟩
  go_wp2_with fail
  refine (surely0 0 false HB.out.1 HB.out.2 (rfl)).mono ?_; rintro e w1 ⟨rfl, rfl⟩
  go_wp2_with fail
  refine (surely1 0 false HB.out.1 HB.out.2 (rfl)).mono ?_; rintro e w1 ⟨rfl, rfl⟩
  go_wp2_with fail
  go_ret2
  exact ⟨by rw [HS.out]; rfl, below_box2 _ _ _⟩

theorem s_4_kn0 (n1 : Int) (w : World) : SimpleAt 14 4 true false 0 n1 w := by
  have HS : Hid (simple 4 true false 0 n1 = (2, 0)) := hide (by simp [simple, isOp])
  have hmf := make_func
  have HB := hide (boxes w (.bool true) (.bool false) (.int .i64 0) (.int .i64 n1))
  unfold SimpleAt
  go_enter Try.func14, Try.ntmps14
  go_wp2_with fail
  refine (is_as (r := true) rfl _).mono ?_; rintro e w1 ⟨rfl, rfl⟩
  go_wp2_with fail
  refine (surely0 1 false HB.out.1 HB.out.2 (rfl)).mono ?_; rintro e w1 ⟨rfl, rfl⟩
  go_wp2_with fail
  refine (surely1 1 false HB.out.1 HB.out.2 (rfl)).mono ?_; rintro e w1 ⟨rfl, rfl⟩
  go_wp2_with fail
  refine (surely0 0 true HB.out.1 HB.out.2 (rfl)).mono ?_; rintro e w1 ⟨rfl, rfl⟩
  go_wp2_with fail
  go_ret2
  exact ⟨by rw [HS.out]; rfl, below_box2 _ _ _⟩

theorem s_4_kn1 (n1 : Int) (w : World) : SimpleAt 14 4 true false 1 n1 w := by
  have HS : Hid (simple 4 true false 1 n1 = (1, 0)) := hide (by simp [simple, isOp])
  have hmf := make_func
  have HB := hide (boxes w (.bool true) (.bool false) (.int .i64 1) (.int .i64 n1))
  unfold SimpleAt
  go_enter Try.func14, Try.ntmps14
  go_wp2_with fail
  refine (is_as (r := true) rfl _).mono ?_; rintro e w1 ⟨rfl, rfl⟩
  go_wp2_with fail
  refine (surely0 1 true HB.out.1 HB.out.2 (rfl)).mono ?_; rintro e w1 ⟨rfl, rfl⟩
  go_wp2_with fail
  go_ret2
  exact ⟨by rw [HS.out]; rfl, below_box2 _ _ _⟩

theorem s_4_knx (n0 n1 : Int) (w : World) (h0 : n0 ≠ 0) (h1 : n0 ≠ 1) : SimpleAt 14 4 true false n0 n1 w := by
  have HS : Hid (simple 4 true false n0 n1 = (-1, 0)) := hide (by simp [simple, isOp, h0, h1])
  have hmf := make_func
  have HB := hide (boxes w (.bool true) (.bool false) (.int .i64 n0) (.int .i64 n1))
  unfold SimpleAt
  go_enter Try.func14, Try.ntmps14
  go_wp2_with fail
  refine (is_as (r := true) rfl _).mono ?_; rintro e w1 ⟨rfl, rfl⟩
  go_wp2_with fail
  refine (surely0 1 false HB.out.1 HB.out.2 (by simp; assumption)).mono ?_; rintro e w1 ⟨rfl, rfl⟩
  go_wp2_with fail
  refine (surely1 1 false HB.out.1 HB.out.2 (rfl)).mono ?_; rintro e w1 ⟨rfl, rfl⟩
  go_wp2_with fail
  refine (surely0 0 false HB.out.1 HB.out.2 (by simp; assumption)).mono ?_; rintro e w1 ⟨rfl, rfl⟩
  go_wp2_with fail
  refine (surely1 0 false HB.out.1 HB.out.2 (rfl)).mono ?_; rintro e w1 ⟨rfl, rfl⟩
  go_wp2_with fail
  go_ret2
  exact ⟨by rw [HS.out]; rfl, below_box2 _ _ _⟩

theorem s_4_nk0 (n0 : Int) (w : World) : SimpleAt 14 4 false true n0 0 w := by
  have HS : Hid (simple 4 false true n0 0 = (2, 0)) := hide (by simp [simple, isOp])
  have hmf := make_func
  have HB := hide (boxes w (.bool false) (.bool true) (.int .i64 n0) (.int .i64 0))
  unfold SimpleAt
  go_enter Try.func14, Try.ntmps14
  go_wp2_with fail
  refine (is_as (r := true) rfl _).mono ?_; rintro e w1 ⟨rfl, rfl⟩
  go_wp2_with fail
  refine (surely0 1 false HB.out.1 HB.out.2 (rfl)).mono ?_; rintro e w1 ⟨rfl, rfl⟩
  go_wp2_with fail
  refine (surely1 1 false HB.out.1 HB.out.2 (rfl)).mono ?_; rintro e w1 ⟨rfl, rfl⟩
  go_wp2_with fail
  refine (surely0 0 false HB.out.1 HB.out.2 (rfl)).mono ?_; rintro e w1 ⟨rfl, rfl⟩
  go_wp2_with fail
  refine (surely1 0 true HB.out.1 HB.out.2 (rfl)).mono ?_; rintro e w1 ⟨rfl, rfl⟩
  go_wp2_with fail
  go_ret2
  exact ⟨by rw [HS.out]; rfl, below_box2 _ _ _⟩

theorem s_4_nk1 (n0 : Int) (w : World) : SimpleAt 14 4 false true n0 1 w := by
  have HS : Hid (simple 4 false true n0 1 = (0, 0)) := hide (by simp [simple, isOp])
  have hmf := make_func
  have HB := hide (boxes w (.bool false) (.bool true) (.int .i64 n0) (.int .i64 1))
  unfold SimpleAt
  go_enter Try.func14, Try.ntmps14
  go_wp2_with fail
  refine (is_as (r := true) rfl _).mono ?_; rintro e w1 ⟨rfl, rfl⟩
  go_wp2_with fail
  refine (surely0 1 false HB.out.1 HB.out.2 (rfl)).mono ?_; rintro e w1 ⟨rfl, rfl⟩
  go_wp2_with fail
  refine (surely1 1 true HB.out.1 HB.out.2 (rfl)).mono ?_; rintro e w1 ⟨rfl, rfl⟩
  go_wp2_with fail
  go_ret2
  exact ⟨by rw [HS.out]; rfl, below_box2 _ _ _⟩

theorem s_4_nkx (n0 n1 : Int) (w : World) (h0 : n1 ≠ 0) (h1 : n1 ≠ 1) : SimpleAt 14 4 false true n0 n1 w := by
  have HS : Hid (simple 4 false true n0 n1 = (-1, 0)) := hide (by simp [simple, isOp, h0, h1])
  have hmf := make_func
  have HB := hide (boxes w (.bool false) (.bool true) (.int .i64 n0) (.int .i64 n1))
  unfold SimpleAt
  go_enter Try.func14, Try.ntmps14
  go_wp2_with fail
  refine (is_as (r := true) rfl _).mono ?_; rintro e w1 ⟨rfl, rfl⟩
  go_wp2_with fail
  refine (surely0 1 false HB.out.1 HB.out.2 (rfl)).mono ?_; rintro e w1 ⟨rfl, rfl⟩
  go_wp2_with fail
  refine (surely1 1 false HB.out.1 HB.out.2 (by simp; assumption)).mono ?_; rintro e w1 ⟨rfl, rfl⟩
  go_wp2_with fail
  refine (surely0 0 false HB.out.1 HB.out.2 (rfl)).mono ?_; rintro e w1 ⟨rfl, rfl⟩
  go_wp2_with fail
  refine (surely1 0 false HB.out.1 HB.out.2 (by simp; assumption)).mono ?_; rintro e w1 ⟨rfl, rfl⟩
  go_wp2_with fail
  go_ret2
  exact ⟨by rw [HS.out]; rfl, below_box2 _ _ _⟩

theorem s_5_nn (n0 n1 : Int) (w : World) : SimpleAt 14 5 false false n0 n1 w := by
  have HS : Hid (simple 5 false false n0 n1 = (-1, 0)) := hide (by simp [simple, isOp])
  have hmf := make_func
  have HB := hide (boxes w (.bool false) (.bool false) (.int .i64 n0) (.int .i64 n1))
  unfold SimpleAt
  go_enter Try.func14, Try.ntmps14
  go_wp2_with fail
  refine (is_as (r := true) rfl _).mono ?_; rintro e w1 ⟨rfl, rfl⟩
  go_wp2_with fail
  refine (surely1 1 false HB.out.1 HB.out.2 (rfl)).mono ?_; rintro e w1 ⟨rfl, rfl⟩
  go_wp2_with fail
  go_ret2
  exact ⟨by rw [HS.out]; rfl, below_box2 _ _ _⟩

theorem s_5_kn (n0 n1 : Int) (w : World) : SimpleAt 14 5 true false n0 n1 w := by
  have HS : Hid (simple 5 true false n0 n1 = (-1, 0)) := hide (by simp [simple, isOp])
  have hmf := make_func
  have HB := hide (boxes w (.bool true) (.bool false) (.int .i64 n0) (.int .i64 n1))
  unfold SimpleAt
  go_enter Try.func14, Try.ntmps14
  go_wp2_with fail
  refine (is_as (r := true) rfl _).mono ?_; rintro e w1 ⟨rfl, rfl⟩
  go_wp2_with fail
  refine (surely1 1 false HB.out.1 HB.out.2 (rfl)).mono ?_; rintro e w1 ⟨rfl, rfl⟩
  go_wp2_with fail
  go_ret2
  exact ⟨by rw [HS.out]; rfl, below_box2 _ _ _⟩

theorem s_5_nk1 (n0 : Int) (w : World) : SimpleAt 14 5 false true n0 1 w := by
  have HS : Hid (simple 5 false true n0 1 = (0, 0)) := hide (by simp [simple, isOp])
  have hmf := make_func
  have HB := hide (boxes w (.bool false) (.bool true) (.int .i64 n0) (.int .i64 1))
  unfold SimpleAt
  go_enter Try.func14, Try.ntmps14
  go_wp2_with fail
  refine (is_as (r := true) rfl _).mono ?_; rintro e w1 ⟨rfl, rfl⟩
  go_wp2_with fail
  refine (surely1 1 true HB.out.1 HB.out.2 (rfl)).mono ?_; rintro e w1 ⟨rfl, rfl⟩
  go_wp2_with fail
  go_ret2
  exact ⟨by rw [HS.out]; rfl, below_box2 _ _ _⟩

theorem s_5_nkb (n0 n1 : Int) (w : World) (h1 : n1 ≠ 1) : SimpleAt 14 5 false true n0 n1 w := by
  have HS : Hid (simple 5 false true n0 n1 = (-1, 0)) := hide (by simp [simple, isOp, h1])
  have hmf := make_func
  have HB := hide (boxes w (.bool false) (.bool true) (.int .i64 n0) (.int .i64 n1))
  unfold SimpleAt
  go_enter Try.func14, Try.ntmps14
  go_wp2_with fail
  refine (is_as (r := true) rfl _).mono ?_; rintro e w1 ⟨rfl, rfl⟩
  go_wp2_with fail
  refine (surely1 1 false HB.out.1 HB.out.2 (by simp; assumption)).mono ?_; rintro e w1 ⟨rfl, rfl⟩
  go_wp2_with fail
  go_ret2
  exact ⟨by rw [HS.out]; rfl, below_box2 _ _ _⟩

theorem s_6_nn (n0 n1 : Int) (w : World) : SimpleAt 14 6 false false n0 n1 w := by
  have HS : Hid (simple 6 false false n0 n1 = (-1, 0)) := hide (by simp [simple, isOp])
  have hmf := make_func
  have HB := hide (boxes w (.bool false) (.bool false) (.int .i64 n0) (.int .i64 n1))
  unfold SimpleAt
  go_enter Try.func14, Try.ntmps14
  go_wp2_with fail
  refine (is_as (r := true) rfl _).mono ?_; rintro e w1 ⟨rfl, rfl⟩
  go_wp2_with fail
  go_ret2
  exact ⟨by rw [HS.out]; rfl, below_box2 _ _ _⟩

theorem s_6_kn (n0 n1 : Int) (w : World) : SimpleAt 14 6 true false n0 n1 w := by
  have HS : Hid (simple 6 true false n0 n1 = (-1, 0)) := hide (by simp [simple, isOp])
  have hmf := make_func
  have HB := hide (boxes w (.bool true) (.bool false) (.int .i64 n0) (.int .i64 n1))
  unfold SimpleAt
  go_enter Try.func14, Try.ntmps14
  go_wp2_with fail
  refine (is_as (r := true) rfl _).mono ?_; rintro e w1 ⟨rfl, rfl⟩
  go_wp2_with fail
  go_ret2
  exact ⟨by rw [HS.out]; rfl, below_box2 _ _ _⟩

theorem s_6_nk (n0 n1 : Int) (w : World) : SimpleAt 14 6 false true n0 n1 w := by
  have HS : Hid (simple 6 false true n0 n1 = (-1, 0)) := hide (by simp [simple, isOp])
  have hmf := make_func
  have HB := hide (boxes w (.bool false) (.bool true) (.int .i64 n0) (.int .i64 n1))
  unfold SimpleAt
  go_enter Try.func14, Try.ntmps14
  go_wp2_with fail
  refine (is_as (r := true) rfl _).mono ?_; rintro e w1 ⟨rfl, rfl⟩
  go_wp2_with fail
  go_ret2
  exact ⟨by rw [HS.out]; rfl, below_box2 _ _ _⟩

theorem s_7_nn (n0 n1 : Int) (w : World) : SimpleAt 14 7 false false n0 n1 w := by
  have HS : Hid (simple 7 false false n0 n1 = (-1, 0)) := hide (by simp [simple, isOp])
  have hmf := make_func
  have HB := hide (boxes w (.bool false) (.bool false) (.int .i64 n0) (.int .i64 n1))
  unfold SimpleAt
  go_enter Try.func14, Try.ntmps14
  go_wp2_with fail
  refine (is_as (r := true) rfl _).mono ?_; rintro e w1 ⟨rfl, rfl⟩
  go_wp2_with fail
  go_ret2
  exact ⟨by rw [HS.out]; rfl, below_box2 _ _ _⟩

theorem s_7_kn (n0 n1 : Int) (w : World) : SimpleAt 14 7 true false n0 n1 w := by
  have HS : Hid (simple 7 true false n0 n1 = (-1, 0)) := hide (by simp [simple, isOp])
  have hmf := make_func
  have HB := hide (boxes w (.bool true) (.bool false) (.int .i64 n0) (.int .i64 n1))
  unfold SimpleAt
  go_enter Try.func14, Try.ntmps14
  go_wp2_with fail
  refine (is_as (r := true) rfl _).mono ?_; rintro e w1 ⟨rfl, rfl⟩
  go_wp2_with fail
  go_ret2
  exact ⟨by rw [HS.out]; rfl, below_box2 _ _ _⟩

theorem s_7_nk (n0 n1 : Int) (w : World) : SimpleAt 14 7 false true n0 n1 w := by
  have HS : Hid (simple 7 false true n0 n1 = (-1, 0)) := hide (by simp [simple, isOp])
  have hmf := make_func
  have HB := hide (boxes w (.bool false) (.bool true) (.int .i64 n0) (.int .i64 n1))
  unfold SimpleAt
  go_enter Try.func14, Try.ntmps14
  go_wp2_with fail
  refine (is_as (r := true) rfl _).mono ?_; rintro e w1 ⟨rfl, rfl⟩
  go_wp2_with fail
  go_ret2
  exact ⟨by rw [HS.out]; rfl, below_box2 _ _ _⟩

end Go.Proofs.Ythgockhdkmijoaa
