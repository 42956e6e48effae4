/- What the document's Simple answers, a case a walk. Written by program. -/
import Derived.Test.YthgockhdkmijoaaWalksC
namespace Go.Proofs.Ythgockhdkmijoaa
open Go Go.RowKit

theorem r_2_nn (n0 n1 : Int) (w : World) : SimpleAt 15 2 false false n0 n1 w := by
  have HS : Hid (simple 2 false false n0 n1 = (-1, 0)) := hide (by simp [simple, isOp])
  unfold SimpleAt
  go_enter Try.func15, Try.ntmps15
  go_wp2_with fail
  refine (refIs_as (r := true) rfl _).mono ?_; rintro e w1 ⟨rfl, rfl⟩
  go_wp2_with fail
  all_goals
    go_ret2
    exact ⟨by rw [HS.out]; rfl, below_box2 _ _ _⟩

theorem r_2_kn0 (n1 : Int) (w : World) : SimpleAt 15 2 true false 0 n1 w := by
  have HS : Hid (simple 2 true false 0 n1 = (1, 0)) := hide (by simp [simple, isOp])
  unfold SimpleAt
  go_enter Try.func15, Try.ntmps15
  go_wp2_with fail
  refine (refIs_as (r := true) rfl _).mono ?_; rintro e w1 ⟨rfl, rfl⟩
  go_wp2_with fail
  all_goals
    go_ret2
    exact ⟨by rw [HS.out]; rfl, below_box2 _ _ _⟩

theorem r_2_kna (n0 n1 : Int) (w : World) (h0 : n0 ≠ 0) : SimpleAt 15 2 true false n0 n1 w := by
  have HS : Hid (simple 2 true false n0 n1 = (-1, 0)) := hide (by simp [simple, isOp, h0])
  unfold SimpleAt
  go_enter Try.func15, Try.ntmps15
  go_wp2_with fail
  refine (refIs_as (r := true) rfl _).mono ?_; rintro e w1 ⟨rfl, rfl⟩
  go_wp2_with fail
  all_goals
    go_ret2
    exact ⟨by rw [HS.out]; rfl, below_box2 _ _ _⟩

theorem r_2_nk0 (n0 : Int) (w : World) : SimpleAt 15 2 false true n0 0 w := by
  have HS : Hid (simple 2 false true n0 0 = (0, 0)) := hide (by simp [simple, isOp])
  unfold SimpleAt
  go_enter Try.func15, Try.ntmps15
  go_wp2_with fail
  refine (refIs_as (r := true) rfl _).mono ?_; rintro e w1 ⟨rfl, rfl⟩
  go_wp2_with fail
  all_goals
    go_ret2
    exact ⟨by rw [HS.out]; rfl, below_box2 _ _ _⟩

theorem r_2_nka (n0 n1 : Int) (w : World) (h0 : n1 ≠ 0) : SimpleAt 15 2 false true n0 n1 w := by
  have HS : Hid (simple 2 false true n0 n1 = (-1, 0)) := hide (by simp [simple, isOp, h0])
  unfold SimpleAt
  go_enter Try.func15, Try.ntmps15
  go_wp2_with fail
  refine (refIs_as (r := true) rfl _).mono ?_; rintro e w1 ⟨rfl, rfl⟩
  go_wp2_with fail
  all_goals
    go_ret2
    exact ⟨by rw [HS.out]; rfl, below_box2 _ _ _⟩

theorem r_3_nn (n0 n1 : Int) (w : World) : SimpleAt 15 3 false false n0 n1 w := by
  have HS : Hid (simple 3 false false n0 n1 = (-1, 0)) := hide (by simp [simple, isOp])
  unfold SimpleAt
  go_enter Try.func15, Try.ntmps15
  go_wp2_with fail
  refine (refIs_as (r := true) rfl _).mono ?_; rintro e w1 ⟨rfl, rfl⟩
  go_wp2_with fail
  all_goals
    go_ret2
    exact ⟨by rw [HS.out]; rfl, below_box2 _ _ _⟩

theorem r_3_kn (n0 n1 : Int) (w : World) : SimpleAt 15 3 true false n0 n1 w := by
  have HS : Hid (simple 3 true false n0 n1 = (-1, 0)) := hide (by simp [simple, isOp])
  unfold SimpleAt
  go_enter Try.func15, Try.ntmps15
  go_wp2_with fail
  refine (refIs_as (r := true) rfl _).mono ?_; rintro e w1 ⟨rfl, rfl⟩
  go_wp2_with fail
  all_goals
    go_ret2
    exact ⟨by rw [HS.out]; rfl, below_box2 _ _ _⟩

theorem r_3_nk0 (n0 : Int) (w : World) : SimpleAt 15 3 false true n0 0 w := by
  have HS : Hid (simple 3 false true n0 0 = (0, 0)) := hide (by simp [simple, isOp])
  unfold SimpleAt
  go_enter Try.func15, Try.ntmps15
  go_wp2_with fail
  refine (refIs_as (r := true) rfl _).mono ?_; rintro e w1 ⟨rfl, rfl⟩
  go_wp2_with fail
  all_goals
    go_ret2
    exact ⟨by rw [HS.out]; rfl, below_box2 _ _ _⟩

theorem r_3_nka (n0 n1 : Int) (w : World) (h0 : n1 ≠ 0) : SimpleAt 15 3 false true n0 n1 w := by
  have HS : Hid (simple 3 false true n0 n1 = (-1, 0)) := hide (by simp [simple, isOp, h0])
  unfold SimpleAt
  go_enter Try.func15, Try.ntmps15
  go_wp2_with fail
  refine (refIs_as (r := true) rfl _).mono ?_; rintro e w1 ⟨rfl, rfl⟩
  go_wp2_with fail
  all_goals
    go_ret2
    exact ⟨by rw [HS.out]; rfl, below_box2 _ _ _⟩

theorem r_4_nn (n0 n1 : Int) (w : World) : SimpleAt 15 4 false false n0 n1 w := by
  have HS : Hid (simple 4 false false n0 n1 = (-1, 0)) := hide (by simp [simple, isOp])
  unfold SimpleAt
  go_enter Try.func15, Try.ntmps15
  go_wp2_with fail
  refine (refIs_as (r := true) rfl _).mono ?_; rintro e w1 ⟨rfl, rfl⟩
  go_wp2_with fail
  all_goals
    go_ret2
    exact ⟨by rw [HS.out]; rfl, below_box2 _ _ _⟩

theorem r_4_kn0 (n1 : Int) (w : World) : SimpleAt 15 4 true false 0 n1 w := by
  have HS : Hid (simple 4 true false 0 n1 = (2, 0)) := hide (by simp [simple, isOp])
  unfold SimpleAt
  go_enter Try.func15, Try.ntmps15
  go_wp2_with fail
  refine (refIs_as (r := true) rfl _).mono ?_; rintro e w1 ⟨rfl, rfl⟩
  go_wp2_with fail
  all_goals
    go_ret2
    exact ⟨by rw [HS.out]; rfl, below_box2 _ _ _⟩

theorem r_4_kn1 (n1 : Int) (w : World) : SimpleAt 15 4 true false 1 n1 w := by
  have HS : Hid (simple 4 true false 1 n1 = (1, 0)) := hide (by simp [simple, isOp])
  unfold SimpleAt
  go_enter Try.func15, Try.ntmps15
  go_wp2_with fail
  refine (refIs_as (r := true) rfl _).mono ?_; rintro e w1 ⟨rfl, rfl⟩
  go_wp2_with fail
  all_goals
    go_ret2
    exact ⟨by rw [HS.out]; rfl, below_box2 _ _ _⟩

theorem r_4_knx (n0 n1 : Int) (w : World) (h0 : n0 ≠ 0) (h1 : n0 ≠ 1) : SimpleAt 15 4 true false n0 n1 w := by
  have HS : Hid (simple 4 true false n0 n1 = (-1, 0)) := hide (by simp [simple, isOp, h0, h1])
  unfold SimpleAt
  go_enter Try.func15, Try.ntmps15
  go_wp2_with fail
  refine (refIs_as (r := true) rfl _).mono ?_; rintro e w1 ⟨rfl, rfl⟩
  go_wp2_with fail
  all_goals
    go_ret2
    exact ⟨by rw [HS.out]; rfl, below_box2 _ _ _⟩

theorem r_4_nk0 (n0 : Int) (w : World) : SimpleAt 15 4 false true n0 0 w := by
  have HS : Hid (simple 4 false true n0 0 = (2, 0)) := hide (by simp [simple, isOp])
  unfold SimpleAt
  go_enter Try.func15, Try.ntmps15
  go_wp2_with fail
  refine (refIs_as (r := true) rfl _).mono ?_; rintro e w1 ⟨rfl, rfl⟩
  go_wp2_with fail
  all_goals
    go_ret2
    exact ⟨by rw [HS.out]; rfl, below_box2 _ _ _⟩

theorem r_4_nk1 (n0 : Int) (w : World) : SimpleAt 15 4 false true n0 1 w := by
  have HS : Hid (simple 4 false true n0 1 = (0, 0)) := hide (by simp [simple, isOp])
  unfold SimpleAt
  go_enter Try.func15, Try.ntmps15
  go_wp2_with fail
  refine (refIs_as (r := true) rfl _).mono ?_; rintro e w1 ⟨rfl, rfl⟩
  go_wp2_with fail
  all_goals
    go_ret2
    exact ⟨by rw [HS.out]; rfl, below_box2 _ _ _⟩

theorem r_4_nkx (n0 n1 : Int) (w : World) (h0 : n1 ≠ 0) (h1 : n1 ≠ 1) : SimpleAt 15 4 false true n0 n1 w := by
  have HS : Hid (simple 4 false true n0 n1 = (-1, 0)) := hide (by simp [simple, isOp, h0, h1])
  unfold SimpleAt
  go_enter Try.func15, Try.ntmps15
  go_wp2_with fail
  refine (refIs_as (r := true) rfl _).mono ?_; rintro e w1 ⟨rfl, rfl⟩
  go_wp2_with fail
  all_goals
    go_ret2
    exact ⟨by rw [HS.out]; rfl, below_box2 _ _ _⟩

theorem r_5_nn (n0 n1 : Int) (w : World) : SimpleAt 15 5 false false n0 n1 w := by
  have HS : Hid (simple 5 false false n0 n1 = (-1, 0)) := hide (by simp [simple, isOp])
  unfold SimpleAt
  go_enter Try.func15, Try.ntmps15
  go_wp2_with fail
  refine (refIs_as (r := true) rfl _).mono ?_; rintro e w1 ⟨rfl, rfl⟩
  go_wp2_with fail
  all_goals
    go_ret2
    exact ⟨by rw [HS.out]; rfl, below_box2 _ _ _⟩

theorem r_5_kn (n0 n1 : Int) (w : World) : SimpleAt 15 5 true false n0 n1 w := by
  have HS : Hid (simple 5 true false n0 n1 = (-1, 0)) := hide (by simp [simple, isOp])
  unfold SimpleAt
  go_enter Try.func15, Try.ntmps15
  go_wp2_with fail
  refine (refIs_as (r := true) rfl _).mono ?_; rintro e w1 ⟨rfl, rfl⟩
  go_wp2_with fail
  all_goals
    go_ret2
    exact ⟨by rw [HS.out]; rfl, below_box2 _ _ _⟩

theorem r_5_nk1 (n0 : Int) (w : World) : SimpleAt 15 5 false true n0 1 w := by
  have HS : Hid (simple 5 false true n0 1 = (0, 0)) := hide (by simp [simple, isOp])
  unfold SimpleAt
  go_enter Try.func15, Try.ntmps15
  go_wp2_with fail
  refine (refIs_as (r := true) rfl _).mono ?_; rintro e w1 ⟨rfl, rfl⟩
  go_wp2_with fail
  all_goals
    go_ret2
    exact ⟨by rw [HS.out]; rfl, below_box2 _ _ _⟩

theorem r_5_nkb (n0 n1 : Int) (w : World) (h1 : n1 ≠ 1) : SimpleAt 15 5 false true n0 n1 w := by
  have HS : Hid (simple 5 false true n0 n1 = (-1, 0)) := hide (by simp [simple, isOp, h1])
  unfold SimpleAt
  go_enter Try.func15, Try.ntmps15
  go_wp2_with fail
  refine (refIs_as (r := true) rfl _).mono ?_; rintro e w1 ⟨rfl, rfl⟩
  go_wp2_with fail
  all_goals
    go_ret2
    exact ⟨by rw [HS.out]; rfl, below_box2 _ _ _⟩

theorem r_6_nn (n0 n1 : Int) (w : World) : SimpleAt 15 6 false false n0 n1 w := by
  have HS : Hid (simple 6 false false n0 n1 = (-1, 0)) := hide (by simp [simple, isOp])
  unfold SimpleAt
  go_enter Try.func15, Try.ntmps15
  go_wp2_with fail
  refine (refIs_as (r := true) rfl _).mono ?_; rintro e w1 ⟨rfl, rfl⟩
  go_wp2_with fail
  all_goals
    go_ret2
    exact ⟨by rw [HS.out]; rfl, below_box2 _ _ _⟩

theorem r_6_kn (n0 n1 : Int) (w : World) : SimpleAt 15 6 true false n0 n1 w := by
  have HS : Hid (simple 6 true false n0 n1 = (-1, 0)) := hide (by simp [simple, isOp])
  unfold SimpleAt
  go_enter Try.func15, Try.ntmps15
  go_wp2_with fail
  refine (refIs_as (r := true) rfl _).mono ?_; rintro e w1 ⟨rfl, rfl⟩
  go_wp2_with fail
  all_goals
    go_ret2
    exact ⟨by rw [HS.out]; rfl, below_box2 _ _ _⟩

theorem r_6_nk (n0 n1 : Int) (w : World) : SimpleAt 15 6 false true n0 n1 w := by
  have HS : Hid (simple 6 false true n0 n1 = (-1, 0)) := hide (by simp [simple, isOp])
  unfold SimpleAt
  go_enter Try.func15, Try.ntmps15
  go_wp2_with fail
  refine (refIs_as (r := true) rfl _).mono ?_; rintro e w1 ⟨rfl, rfl⟩
  go_wp2_with fail
  all_goals
    go_ret2
    exact ⟨by rw [HS.out]; rfl, below_box2 _ _ _⟩

theorem r_7_nn (n0 n1 : Int) (w : World) : SimpleAt 15 7 false false n0 n1 w := by
  have HS : Hid (simple 7 false false n0 n1 = (-1, 0)) := hide (by simp [simple, isOp])
  unfold SimpleAt
  go_enter Try.func15, Try.ntmps15
  go_wp2_with fail
  refine (refIs_as (r := true) rfl _).mono ?_; rintro e w1 ⟨rfl, rfl⟩
  go_wp2_with fail
  all_goals
    go_ret2
    exact ⟨by rw [HS.out]; rfl, below_box2 _ _ _⟩

theorem r_7_kn (n0 n1 : Int) (w : World) : SimpleAt 15 7 true false n0 n1 w := by
  have HS : Hid (simple 7 true false n0 n1 = (-1, 0)) := hide (by simp [simple, isOp])
  unfold SimpleAt
  go_enter Try.func15, Try.ntmps15
  go_wp2_with fail
  refine (refIs_as (r := true) rfl _).mono ?_; rintro e w1 ⟨rfl, rfl⟩
  go_wp2_with fail
  all_goals
    go_ret2
    exact ⟨by rw [HS.out]; rfl, below_box2 _ _ _⟩

theorem r_7_nk (n0 n1 : Int) (w : World) : SimpleAt 15 7 false true n0 n1 w := by
  have HS : Hid (simple 7 false true n0 n1 = (-1, 0)) := hide (by simp [simple, isOp])
  unfold SimpleAt
  go_enter Try.func15, Try.ntmps15
  go_wp2_with fail
  refine (refIs_as (r := true) rfl _).mono ?_; rintro e w1 ⟨rfl, rfl⟩
  go_wp2_with fail
  all_goals
    go_ret2
    exact ⟨by rw [HS.out]; rfl, below_box2 _ _ _⟩

end Go.Proofs.Ythgockhdkmijoaa
