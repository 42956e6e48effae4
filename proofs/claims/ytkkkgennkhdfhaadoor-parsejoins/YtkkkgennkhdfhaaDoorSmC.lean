/- The reference's comparison of programs: what is alike but for its place is the same. -/
import Derived.Test.YtkkkgennkhdfhaaDoorSmB
namespace Go.Proofs.YtkkkgennkhdfhaaDoor
open Go Go.RowKit
open G (Tok Er Ins Fun shI shF)

set_option maxHeartbeats 1000000 in
set_option maxRecDepth 4000 in
theorem same_prog (xs ys : List Fun) (hlike : ∀ (i : Nat) (y : Fun), ys[i]? = some y → ∃ d, xs[i]? = some (shF d y)) (ao bo : Option Addr) (ca cb B C : Nat) (w : World) (ly : ys.length ≤ 64)
    (hx : ProgVal B xs (.slice ao ys.length ca) w) (hy : ProgVal C ys (.slice bo ys.length cb) w) :
    Calls Tryd.prog 12 #[.agg #[.slice ao ys.length ca], .agg #[.slice bo ys.length cb]] w fun e w' => e = .returned (.bool true) ∧ Below w.heap.size w w' := by
  have b0 := below_step (below_box w (.cells #[.slice ao ys.length ca] 25)) (below_box (w.alloc (.cells #[.slice ao ys.length ca] 25)) (.cells #[.slice bo ys.length cb] 25))
  have B1 := hide (L5.Box.new w [.slice ao ys.length ca] 25)
  have B2 : Hid (L5.Box ((w.alloc (.cells #[.slice ao ys.length ca] 25)).alloc (.cells #[.slice bo ys.length cb] 25)) w.heap.size [.slice ao ys.length ca]) := hide (B1.out.below (below_box (w.alloc (.cells #[.slice ao ys.length ca] 25)) (.cells #[.slice bo ys.length cb] 25)))
  have B3 : Hid (L5.Box ((w.alloc (.cells #[.slice ao ys.length ca] 25)).alloc (.cells #[.slice bo ys.length cb] 25)) (w.heap.size + 1) [.slice bo ys.length cb]) := hide (by
    have := L5.Box.new (w.alloc (.cells #[.slice ao ys.length ca] 25)) [.slice bo ys.length cb] 25
    rwa [show (w.alloc (.cells #[.slice ao ys.length ca] 25)).heap.size = w.heap.size + 1 from by simp] at this)
  have H1 := hide (hx.below b0)
  have H2 := hide (hy.below b0)
  have b0 := hide b0
  replace hlike := hide hlike
  clear hx hy B1
  go_enter Tryd.func12, Tryd.ntmps12
  go_upto_region 1 with fail
  show Code.wp _ _ _ _ ((w.alloc (.cells #[.slice ao ys.length ca] 25)).alloc (.cells #[.slice bo ys.length cb] 25))
  generalize (w.alloc (.cells #[.slice ao ys.length ca] 25)).alloc (.cells #[.slice bo ys.length cb] 25) = W at *
  have x0 := B2.out.2 0 _ rfl
  have y0 := B3.out.2 0 _ rfl
  go_wp2_with fail
  clear x0 y0
  go_loopw [5] (fun i wr => ∃ I : Nat, i = .int .i64 I ∧ I ≤ ys.length ∧ Below W.heap.size W wr) (fun i _ => ys.length - (intOf i).toNat)
  case atStart => exact ⟨0, rfl, Nat.zero_le _, Below.refl _ _⟩
  case round =>
    obtain ⟨I, rfl, hI, hB⟩ := hrel
    have x0 := (B2.out.below hB).2 0 _ rfl
    replace hB := hide hB
    by_cases hit : I < ys.length
    · obtain ⟨y, hyI⟩ : ∃ y, ys[I]? = some y := ⟨ys[I], List.getElem?_eq_some_iff.2 ⟨hit, rfl⟩⟩
      obtain ⟨d, hxI⟩ := hlike.out I y hyI
      obtain ⟨nm, ps, rt, bl, pl⟩ := y
      have hB2 := fun x => below_step hB.out (L5.grewTo_below wr x)
      obtain ⟨g, vp, vb, rfl, e1, k1, k2, kc, kp, kb⟩ := H1.out.fn I _ hxI
      clear e1
      obtain ⟨h, up, ub, rfl, e1, k3, k4, kc', kp', kb'⟩ := H2.out.fn I _ hyI
      clear e1
      obtain ⟨oa, ca1, rfl, sa, lp⟩ := sl_long (l := ps) kp
      obtain ⟨oa', ca2, rfl, sa', _⟩ := sl_long (l := ps) kp'
      obtain ⟨ob, cb1, hvb⟩ := kb.len
      replace hvb : vb = .slice ob bl.length cb1 := by rw [hvb]; congr 1; exact List.length_map ..
      subst hvb
      obtain ⟨ob', cb2, rfl⟩ := kb'.len
      have lb : bl.length ≤ maxLen := by
        obtain ⟨cs, o1, _⟩ := kb'
        rcases own_view o1 with ⟨_, hn⟩ | ⟨g, cap', hv, a1, a2, _⟩
        · rw [hn]; exact Nat.zero_le _
        · exact Nat.le_trans a1 a2
      have S1 := hide (fun x => sa.below (hB2 x))
      have S2 := hide (fun x => sa'.below (hB2 x))
      have S3 : Hid (∀ x, BlksVal B (bl.map (fun b => b.map (shI d))) (.slice ob bl.length cb1) (L5.grewTo wr x)) := hide (fun x => kb.stay (stay_below (hB2 x)))
      have S4 : Hid (∀ x, BlksVal C bl (.slice ob' bl.length cb2) (L5.grewTo wr x)) := hide (fun x => kb'.stay (stay_below (hB2 x)))
      have q1 : g < W.heap.size := World.block_lt_of_cell? W _ (kc 0 _ rfl)
      have q2 : h < W.heap.size := World.block_lt_of_cell? W _ (kc' 0 _ rfl)
      have u0 := fun x => (B2.out.below (hB2 x)).2 0 _ rfl
      have v0 := fun x => (B3.out.below (hB2 x)).2 0 _ rfl
      have m0 : ∀ x, (L5.grewTo wr x).cell? ⟨g, I * 5, none⟩ = some (.string (bs nm)) := fun x => ((hB2 x).cell (p := ⟨g, I * 5, none⟩) q1).trans (kc 0 _ rfl)
      have m1 : ∀ x, (L5.grewTo wr x).cell? ⟨g, I * 5 + 1, none⟩ = some (.slice oa ps.length ca1) := fun x => ((hB2 x).cell (p := ⟨g, I * 5 + 1, none⟩) q1).trans (kc 1 _ rfl)
      have m2 : ∀ x, (L5.grewTo wr x).cell? ⟨g, I * 5 + 2, none⟩ = some (.int .i64 rt) := fun x => ((hB2 x).cell (p := ⟨g, I * 5 + 2, none⟩) q1).trans (kc 2 _ rfl)
      have m3 : ∀ x, (L5.grewTo wr x).cell? ⟨g, I * 5 + 3, none⟩ = some (.slice ob bl.length cb1) := fun x => ((hB2 x).cell (p := ⟨g, I * 5 + 3, none⟩) q1).trans (kc 3 _ rfl)
      have m4 : ∀ x, (L5.grewTo wr x).cell? ⟨g, I * 5 + 4, none⟩ = some (.int .i64 (pl + d)) := fun x => ((hB2 x).cell (p := ⟨g, I * 5 + 4, none⟩) q1).trans (kc 4 _ rfl)
      have n0 : ∀ x, (L5.grewTo wr x).cell? ⟨h, I * 5, none⟩ = some (.string (bs nm)) := fun x => ((hB2 x).cell (p := ⟨h, I * 5, none⟩) q2).trans (kc' 0 _ rfl)
      have n1 : ∀ x, (L5.grewTo wr x).cell? ⟨h, I * 5 + 1, none⟩ = some (.slice oa' ps.length ca2) := fun x => ((hB2 x).cell (p := ⟨h, I * 5 + 1, none⟩) q2).trans (kc' 1 _ rfl)
      have n2 : ∀ x, (L5.grewTo wr x).cell? ⟨h, I * 5 + 2, none⟩ = some (.int .i64 rt) := fun x => ((hB2 x).cell (p := ⟨h, I * 5 + 2, none⟩) q2).trans (kc' 2 _ rfl)
      have n3 : ∀ x, (L5.grewTo wr x).cell? ⟨h, I * 5 + 3, none⟩ = some (.slice ob' bl.length cb2) := fun x => ((hB2 x).cell (p := ⟨h, I * 5 + 3, none⟩) q2).trans (kc' 3 _ rfl)
      have n4 : ∀ x, (L5.grewTo wr x).cell? ⟨h, I * 5 + 4, none⟩ = some (.int .i64 pl) := fun x => ((hB2 x).cell (p := ⟨h, I * 5 + 4, none⟩) q2).trans (kc' 4 _ rfl)
      replace hB2 := hide hB2
      clear kc kc' kp kp' kb kb' sa sa'
      go_wp2_with fail
      refine L5.region_grew (by kernel_rfl) (by kernel_rfl) ?_
      repeat (go_big_quiet_step ((go_at_call 19; exact L5.calls_grew (same_fun d nm ps rt (pl + d) pl bl oa ob oa' ob' ca1 cb1 ca2 cb2 B C _ lp lb (S1.out _) (S3.out _) (S2.out _) (S4.out _)))))
      refine wpQuiet_nil ?_
      rintro _ ⟨x, rfl⟩
      clear u0 v0 x0 m0 m1 m2 m3 m4 n0 n1 n2 n3 n4
      go_wp2_with fail
      go_roundw
      case rel => exact ⟨I + 1, by go_num, by omega, hB2.out x⟩
      case measure => simp [intOf]; omega
    · have hge : ¬ ((I : Int) < (ys.length : Int)) := by omega
      clear hit
      go_wp2_with fail
      go_ret
      exact ⟨rfl, below_step b0.out hB.out⟩
end Go.Proofs.YtkkkgennkhdfhaaDoor
