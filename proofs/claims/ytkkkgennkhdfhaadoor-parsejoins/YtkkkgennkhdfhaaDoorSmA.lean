/- The reference's comparisons of instructions: what is alike but for its place is the same. -/
import Derived.Test.YtkkkgennkhdfhaaDoorSta
namespace Go.Proofs.YtkkkgennkhdfhaaDoor
open Go Go.RowKit
open G (Tok Er Ins Fun shI shF)

theorem ints_same (l : List Int) (ao bo : Option Addr) (ca cb : Nat) (w : World) (hl : l.length ≤ maxLen) (ha : L5.SlI w ao l) (hb : L5.SlI w bo l) :
    Calls Tryd.prog 27 #[.slice ao l.length ca, .slice bo l.length cb] w fun e w' => e = .returned (.bool true) ∧ Below w.heap.size w w' := by
  unfold maxLen at hl
  rcases ha with rfl | ⟨a, rfl, hal, ha⟩
  · go_enter Tryd.func27, Tryd.ntmps27
    go_wp2
    go_loop [5] (fun i => i = .int .i64 0) (fun i => 0)
    case atStart => rfl
    case round =>
      subst hrel
      go_wp2
      go_ret
      exact ⟨rfl, Below.refl _ _⟩
  rcases hb with rfl | ⟨b, rfl, hbl, hb⟩
  · go_enter Tryd.func27, Tryd.ntmps27
    go_wp2
    go_loop [5] (fun i => i = .int .i64 0) (fun i => 0)
    case atStart => rfl
    case round =>
      subst hrel
      go_wp2
      go_ret
      exact ⟨rfl, Below.refl _ _⟩
  go_enter Tryd.func27, Tryd.ntmps27
  go_wp2
  go_loopw [5] (fun i wr => ∃ k : Nat, k ≤ l.length ∧ i = .int .i64 k ∧ Below w.heap.size w wr) (fun i _ => l.length - (intOf i).toNat)
  case atStart => exact ⟨0, Nat.zero_le _, rfl, Below.refl _ _⟩
  case round =>
    obtain ⟨k, hk, rfl, hB⟩ := hrel
    replace hB := hide hB
    by_cases hlt : k < l.length
    · have hB2 := fun x => below_step hB.out (L5.grewTo_below wr x)
      have c1 := fun x => ((hB2 x).cell (p := ⟨a, k, none⟩) hal).trans (ha k hlt)
      have c2 := fun x => ((hB2 x).cell (p := ⟨b, k, none⟩) hbl).trans (hb k hlt)
      replace hB2 := hide hB2
      go_wp2
      refine L5.region_grew (by kernel_rfl) (by kernel_rfl) ?_
      repeat (go_big_quiet_step (fail))
      refine wpQuiet_nil ?_
      rintro _ ⟨x, rfl⟩
      go_wp2_with fail
      go_roundw
      case rel => exact ⟨k + 1, by omega, by go_num, hB2.out x⟩
      case measure => simp [intOf]; omega
    · go_wp2
      go_ret
      exact ⟨rfl, hB.out⟩

theorem sl_long {w : World} {B : Nat} {v : Value} {l : List Int} (h : w.ownsRow B 3 1 v l.length (ints l)) : ∃ ao cap, v = .slice ao l.length cap ∧ L5.SlI w ao l ∧ l.length ≤ maxLen := by
  obtain ⟨ao, cap, rfl, hs⟩ := L5.sl_of_own h
  refine ⟨ao, cap, rfl, hs, ?_⟩
  rcases own_view h with ⟨_, hn⟩ | ⟨g, cap', hv, a1, a2, _⟩
  · rw [hn]; exact Nat.zero_le _
  · exact Nat.le_trans a1 a2
theorem same_ins (op id nn ty pp qq : Int) (ar tt : List Int) (s : ByteArray) (ao to bo uo : Option Addr) (ca ct cb cu : Nat) (w : World) (la : ar.length ≤ maxLen) (lt : tt.length ≤ maxLen) (ha : L5.SlI w ao ar) (ht : L5.SlI w to tt) (hb : L5.SlI w bo ar) (hu : L5.SlI w uo tt) :
    Calls Tryd.prog 28 #[.agg #[.int .i64 op, .int .i64 id, .int .i64 nn, .int .i64 ty, .slice ao ar.length ca, .slice to tt.length ct, .string s, .int .i64 pp], .agg #[.int .i64 op, .int .i64 id, .int .i64 nn, .int .i64 ty, .slice bo ar.length cb, .slice uo tt.length cu, .string s, .int .i64 qq]] w fun e w' => e = .returned (.bool true) ∧ Below w.heap.size w w' := by
  have b0 := below_step (below_box w (.cells #[.int .i64 op, .int .i64 id, .int .i64 nn, .int .i64 ty, .slice ao ar.length ca, .slice to tt.length ct, .string s, .int .i64 pp] 38)) (below_box (w.alloc (.cells #[.int .i64 op, .int .i64 id, .int .i64 nn, .int .i64 ty, .slice ao ar.length ca, .slice to tt.length ct, .string s, .int .i64 pp] 38)) (.cells #[.int .i64 op, .int .i64 id, .int .i64 nn, .int .i64 ty, .slice bo ar.length cb, .slice uo tt.length cu, .string s, .int .i64 qq] 38))
  have B1 := hide (L5.Box.new w [.int .i64 op, .int .i64 id, .int .i64 nn, .int .i64 ty, .slice ao ar.length ca, .slice to tt.length ct, .string s, .int .i64 pp] 38)
  have B2 := hide (B1.out.below (below_box (w.alloc (.cells #[.int .i64 op, .int .i64 id, .int .i64 nn, .int .i64 ty, .slice ao ar.length ca, .slice to tt.length ct, .string s, .int .i64 pp] 38)) (.cells #[.int .i64 op, .int .i64 id, .int .i64 nn, .int .i64 ty, .slice bo ar.length cb, .slice uo tt.length cu, .string s, .int .i64 qq] 38)))
  have B3 : Hid (L5.Box _ (w.heap.size + 1) _) := hide (by
    have := L5.Box.new (w.alloc (.cells #[.int .i64 op, .int .i64 id, .int .i64 nn, .int .i64 ty, .slice ao ar.length ca, .slice to tt.length ct, .string s, .int .i64 pp] 38)) [.int .i64 op, .int .i64 id, .int .i64 nn, .int .i64 ty, .slice bo ar.length cb, .slice uo tt.length cu, .string s, .int .i64 qq] 38
    rwa [show (w.alloc (.cells #[.int .i64 op, .int .i64 id, .int .i64 nn, .int .i64 ty, .slice ao ar.length ca, .slice to tt.length ct, .string s, .int .i64 pp] 38)).heap.size = w.heap.size + 1 from by simp] at this)
  have H1 := hide (ha.below b0)
  have H2 := hide (ht.below b0)
  have H3 := hide (hb.below b0)
  have H4 := hide (hu.below b0)
  have b0 := hide b0
  clear ha ht hb hu B1
  go_enter Tryd.func28, Tryd.ntmps28
  go_upto_region 1 with fail
  show Code.wp _ _ _ _ ((w.alloc (.cells #[.int .i64 op, .int .i64 id, .int .i64 nn, .int .i64 ty, .slice ao ar.length ca, .slice to tt.length ct, .string s, .int .i64 pp] 38)).alloc (.cells #[.int .i64 op, .int .i64 id, .int .i64 nn, .int .i64 ty, .slice bo ar.length cb, .slice uo tt.length cu, .string s, .int .i64 qq] 38))
  replace B2 : Hid (L5.Box ((w.alloc (.cells #[.int .i64 op, .int .i64 id, .int .i64 nn, .int .i64 ty, .slice ao ar.length ca, .slice to tt.length ct, .string s, .int .i64 pp] 38)).alloc (.cells #[.int .i64 op, .int .i64 id, .int .i64 nn, .int .i64 ty, .slice bo ar.length cb, .slice uo tt.length cu, .string s, .int .i64 qq] 38)) w.heap.size [.int .i64 op, .int .i64 id, .int .i64 nn, .int .i64 ty, .slice ao ar.length ca, .slice to tt.length ct, .string s, .int .i64 pp]) := B2
  replace B3 : Hid (L5.Box ((w.alloc (.cells #[.int .i64 op, .int .i64 id, .int .i64 nn, .int .i64 ty, .slice ao ar.length ca, .slice to tt.length ct, .string s, .int .i64 pp] 38)).alloc (.cells #[.int .i64 op, .int .i64 id, .int .i64 nn, .int .i64 ty, .slice bo ar.length cb, .slice uo tt.length cu, .string s, .int .i64 qq] 38)) (w.heap.size + 1) [.int .i64 op, .int .i64 id, .int .i64 nn, .int .i64 ty, .slice bo ar.length cb, .slice uo tt.length cu, .string s, .int .i64 qq]) := B3
  generalize (w.alloc (.cells #[.int .i64 op, .int .i64 id, .int .i64 nn, .int .i64 ty, .slice ao ar.length ca, .slice to tt.length ct, .string s, .int .i64 pp] 38)).alloc (.cells #[.int .i64 op, .int .i64 id, .int .i64 nn, .int .i64 ty, .slice bo ar.length cb, .slice uo tt.length cu, .string s, .int .i64 qq] 38) = W at *
  have x0 := B2.out.2 0 _ rfl
  have x1 := B2.out.2 1 _ rfl
  have x2 := B2.out.2 2 _ rfl
  have x3 := B2.out.2 3 _ rfl
  have x4 := B2.out.2 4 _ rfl
  have x6 := B2.out.2 6 _ rfl
  have y0 := B3.out.2 0 _ rfl
  have y1 := B3.out.2 1 _ rfl
  have y2 := B3.out.2 2 _ rfl
  have y3 := B3.out.2 3 _ rfl
  have y4 := B3.out.2 4 _ rfl
  have y6 := B3.out.2 6 _ rfl
  go_wp2_with fail
  refine (ints_same ar ao bo ca cb _ la H1.out H3.out).mono ?_; rintro e w1 ⟨rfl, b1⟩
  clear x0 x1 x2 x3 x4 x6 y0 y1 y2 y3 y4 y6
  have x5 := (B2.out.below b1).2 5 _ rfl
  have y5 := (B3.out.below b1).2 5 _ rfl
  replace b1 := hide b1
  go_wp2_with fail
  refine (ints_same tt to uo ct cu _ lt (H2.out.below b1.out) (H4.out.below b1.out)).mono ?_; rintro e w2 ⟨rfl, b2⟩
  go_wp2_with fail
  go_ret
  exact ⟨rfl, below_step (below_step b0.out b1.out) b2⟩
end Go.Proofs.YtkkkgennkhdfhaaDoor
