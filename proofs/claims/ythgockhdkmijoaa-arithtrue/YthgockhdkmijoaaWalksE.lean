/- What Simple and the document's Simple answer, whatever they are given. -/
import Derived.Test.YthgockhdkmijoaaWalksD
namespace Go.Proofs.Ythgockhdkmijoaa
open Go Go.RowKit

theorem s_none {op : Int} (h : isOp op = false) (k0 k1 : Bool) (n0 n1 : Int) (w : World) : SimpleAt 14 op k0 k1 n0 n1 w := by
  have HS : Hid (simple op k0 k1 n0 n1 = (-1, 0)) := hide (by simp [simple, h])
  have H := hide h
  clear h
  unfold SimpleAt
  go_enter Try.func14, Try.ntmps14
  go_wp2_with fail
  refine (is_as (r := false) H.out _).mono ?_; rintro e w1 ⟨rfl, rfl⟩
  go_wp2_with fail
  go_ret2
  exact ⟨by rw [HS.out]; rfl, below_box2 _ _ _⟩
theorem r_none {op : Int} (h : isOp op = false) (k0 k1 : Bool) (n0 n1 : Int) (w : World) : SimpleAt 15 op k0 k1 n0 n1 w := by
  have HS : Hid (simple op k0 k1 n0 n1 = (-1, 0)) := hide (by simp [simple, h])
  have H := hide h
  clear h
  unfold SimpleAt
  go_enter Try.func15, Try.ntmps15
  go_wp2_with fail
  refine (refIs_as (r := false) H.out _).mono ?_; rintro e w1 ⟨rfl, rfl⟩
  go_wp2_with fail
  go_ret2
  exact ⟨by rw [HS.out]; rfl, below_box2 _ _ _⟩
theorem s_both {op : Int} (h : isOp op = true) (n0 n1 : Int) (w : World) : SimpleAt 14 op true true n0 n1 w := by
  have HS : Hid (simple op true true n0 n1 = whole op n0 n1) := hide (by simp [simple, h])
  have H := hide h
  clear h
  unfold SimpleAt
  go_enter Try.func14, Try.ntmps14
  go_wp2_with fail
  refine (is_as (r := true) H.out _).mono ?_; rintro e w1 ⟨rfl, rfl⟩
  go_wp2_with fail
  refine (whole_any _ _ _ _).mono ?_; rintro e w1 ⟨rfl, b1⟩
  go_wp2_with fail
  go_ret2
  exact ⟨by rw [HS.out]; rfl, below_new (below_new b1)⟩
theorem r_both {op : Int} (h : isOp op = true) (n0 n1 : Int) (w : World) : SimpleAt 15 op true true n0 n1 w := by
  have H := hide h
  by_cases ht : op = 5 ∧ n1 = 0
  · have h3 : traps op n1 = 3 := by simp [traps, ht]
    have HQ := hide h3
    have HS : Hid (simple op true true n0 n1 = (-1, 0)) := hide (by simp [simple, h, whole, h3])
    clear h3 ht h
    unfold SimpleAt
    go_enter Try.func15, Try.ntmps15
    go_wp2_with fail
    refine (refIs_as (r := true) H.out _).mono ?_; rintro e w1 ⟨rfl, rfl⟩
    go_wp2_with fail
    refine (refDo_two _ _ _ _).mono ?_; rintro e w1 ⟨rfl, rfl⟩
    rw [HQ.out]
    go_wp2_with fail
    go_ret2
    exact ⟨by rw [HS.out]; rfl, below_box2 _ _ _⟩
  · have h3 : traps op n1 = 0 := by simp only [traps, if_neg ht]
    have HQ := hide h3
    have HS : Hid (simple op true true n0 n1 = (2, makes op n0 n1)) := hide (by simp [simple, h, whole, h3])
    clear h3 ht h
    unfold SimpleAt
    go_enter Try.func15, Try.ntmps15
    go_wp2_with fail
    refine (refIs_as (r := true) H.out _).mono ?_; rintro e w1 ⟨rfl, rfl⟩
    go_wp2_with fail
    refine (refDo_two _ _ _ _).mono ?_; rintro e w1 ⟨rfl, rfl⟩
    rw [HQ.out]
    go_wp2_with fail
    go_ret2
    exact ⟨by rw [HS.out]; rfl, below_box2 _ _ _⟩

theorem simple_all (op : Int) (k0 k1 : Bool) (n0 n1 : Int) (w : World) : SimpleAt 14 op k0 k1 n0 n1 w := by
  by_cases hI : isOp op = true
  · rcases op_cases op with rfl | rfl | rfl | rfl | rfl | rfl | h
    · cases k0 <;> cases k1
      · exact s_2_nn n0 n1 w
      · by_cases h : n1 = 0
        · subst h; exact s_2_nk0 n0 w
        · exact s_2_nka n0 n1 w h
      · by_cases h : n0 = 0
        · subst h; exact s_2_kn0 n1 w
        · exact s_2_kna n0 n1 w h
      · exact s_both hI n0 n1 w
    · cases k0 <;> cases k1
      · exact s_3_nn n0 n1 w
      · by_cases h : n1 = 0
        · subst h; exact s_3_nk0 n0 w
        · exact s_3_nka n0 n1 w h
      · exact s_3_kn n0 n1 w
      · exact s_both hI n0 n1 w
    · cases k0 <;> cases k1
      · exact s_4_nn n0 n1 w
      · by_cases h0 : n1 = 0
        · subst h0; exact s_4_nk0 n0 w
        · by_cases h1 : n1 = 1
          · subst h1; exact s_4_nk1 n0 w
          · exact s_4_nkx n0 n1 w h0 h1
      · by_cases h0 : n0 = 0
        · subst h0; exact s_4_kn0 n1 w
        · by_cases h1 : n0 = 1
          · subst h1; exact s_4_kn1 n1 w
          · exact s_4_knx n0 n1 w h0 h1
      · exact s_both hI n0 n1 w
    · cases k0 <;> cases k1
      · exact s_5_nn n0 n1 w
      · by_cases h : n1 = 1
        · subst h; exact s_5_nk1 n0 w
        · exact s_5_nkb n0 n1 w h
      · exact s_5_kn n0 n1 w
      · exact s_both hI n0 n1 w
    · cases k0 <;> cases k1
      · exact s_6_nn n0 n1 w
      · exact s_6_nk n0 n1 w
      · exact s_6_kn n0 n1 w
      · exact s_both hI n0 n1 w
    · cases k0 <;> cases k1
      · exact s_7_nn n0 n1 w
      · exact s_7_nk n0 n1 w
      · exact s_7_kn n0 n1 w
      · exact s_both hI n0 n1 w
    · rw [isOp_other h] at hI; cases hI
  · exact s_none (by simpa using hI) k0 k1 n0 n1 w

theorem refSimple_all (op : Int) (k0 k1 : Bool) (n0 n1 : Int) (w : World) : SimpleAt 15 op k0 k1 n0 n1 w := by
  by_cases hI : isOp op = true
  · rcases op_cases op with rfl | rfl | rfl | rfl | rfl | rfl | h
    · cases k0 <;> cases k1
      · exact r_2_nn n0 n1 w
      · by_cases h : n1 = 0
        · subst h; exact r_2_nk0 n0 w
        · exact r_2_nka n0 n1 w h
      · by_cases h : n0 = 0
        · subst h; exact r_2_kn0 n1 w
        · exact r_2_kna n0 n1 w h
      · exact r_both hI n0 n1 w
    · cases k0 <;> cases k1
      · exact r_3_nn n0 n1 w
      · by_cases h : n1 = 0
        · subst h; exact r_3_nk0 n0 w
        · exact r_3_nka n0 n1 w h
      · exact r_3_kn n0 n1 w
      · exact r_both hI n0 n1 w
    · cases k0 <;> cases k1
      · exact r_4_nn n0 n1 w
      · by_cases h0 : n1 = 0
        · subst h0; exact r_4_nk0 n0 w
        · by_cases h1 : n1 = 1
          · subst h1; exact r_4_nk1 n0 w
          · exact r_4_nkx n0 n1 w h0 h1
      · by_cases h0 : n0 = 0
        · subst h0; exact r_4_kn0 n1 w
        · by_cases h1 : n0 = 1
          · subst h1; exact r_4_kn1 n1 w
          · exact r_4_knx n0 n1 w h0 h1
      · exact r_both hI n0 n1 w
    · cases k0 <;> cases k1
      · exact r_5_nn n0 n1 w
      · by_cases h : n1 = 1
        · subst h; exact r_5_nk1 n0 w
        · exact r_5_nkb n0 n1 w h
      · exact r_5_kn n0 n1 w
      · exact r_both hI n0 n1 w
    · cases k0 <;> cases k1
      · exact r_6_nn n0 n1 w
      · exact r_6_nk n0 n1 w
      · exact r_6_kn n0 n1 w
      · exact r_both hI n0 n1 w
    · cases k0 <;> cases k1
      · exact r_7_nn n0 n1 w
      · exact r_7_nk n0 n1 w
      · exact r_7_kn n0 n1 w
      · exact r_both hI n0 n1 w
    · rw [isOp_other h] at hI; cases hI
  · exact r_none (by simpa using hI) k0 k1 n0 n1 w

end Go.Proofs.Ythgockhdkmijoaa
