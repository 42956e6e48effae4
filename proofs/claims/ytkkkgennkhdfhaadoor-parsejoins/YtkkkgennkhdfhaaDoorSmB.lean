/- The reference's comparisons of functions and programs: what is alike but for its place is the same. -/
import Derived.Test.YtkkkgennkhdfhaaDoorSmA
namespace Go.Proofs.YtkkkgennkhdfhaaDoor
open Go Go.RowKit
open G (Tok Er Ins Fun shI shF)

theorem map_at {α β : Type} {f : α → β} {l : List α} {i : Nat} {x : α} (h : l[i]? = some x) : (l.map f)[i]? = some (f x) := by
  rw [List.getElem?_map, h]; rfl
set_option maxHeartbeats 1000000 in
set_option maxRecDepth 4000 in
theorem same_fun (d : Int) (nm : List UInt8) (ps : List Int) (rt pl ql : Int) (bl : List (List Ins)) (ao bo uo vo : Option Addr) (ca cb cu cv B C : Nat) (w : World) (lp : ps.length ≤ maxLen) (lb : bl.length ≤ maxLen)
    (ha : L5.SlI w ao ps) (hb : BlksVal B (bl.map (fun b => b.map (shI d))) (.slice bo bl.length cb) w) (hu : L5.SlI w uo ps) (hv : BlksVal C bl (.slice vo bl.length cv) w) :
    Calls Tryd.prog 19 #[.agg #[.string (bs nm), .slice ao ps.length ca, .int .i64 rt, .slice bo bl.length cb, .int .i64 pl], .agg #[.string (bs nm), .slice uo ps.length cu, .int .i64 rt, .slice vo bl.length cv, .int .i64 ql]] w fun e w' => e = .returned (.bool true) ∧ Below w.heap.size w w' := by
  have b0 := below_step (below_box w (.cells #[.string (bs nm), .slice ao ps.length ca, .int .i64 rt, .slice bo bl.length cb, .int .i64 pl] 34)) (below_box (w.alloc (.cells #[.string (bs nm), .slice ao ps.length ca, .int .i64 rt, .slice bo bl.length cb, .int .i64 pl] 34)) (.cells #[.string (bs nm), .slice uo ps.length cu, .int .i64 rt, .slice vo bl.length cv, .int .i64 ql] 34))
  have B1 := hide (L5.Box.new w [.string (bs nm), .slice ao ps.length ca, .int .i64 rt, .slice bo bl.length cb, .int .i64 pl] 34)
  have B2 : Hid (L5.Box ((w.alloc (.cells #[.string (bs nm), .slice ao ps.length ca, .int .i64 rt, .slice bo bl.length cb, .int .i64 pl] 34)).alloc (.cells #[.string (bs nm), .slice uo ps.length cu, .int .i64 rt, .slice vo bl.length cv, .int .i64 ql] 34)) w.heap.size [.string (bs nm), .slice ao ps.length ca, .int .i64 rt, .slice bo bl.length cb, .int .i64 pl]) := hide (B1.out.below (below_box (w.alloc (.cells #[.string (bs nm), .slice ao ps.length ca, .int .i64 rt, .slice bo bl.length cb, .int .i64 pl] 34)) (.cells #[.string (bs nm), .slice uo ps.length cu, .int .i64 rt, .slice vo bl.length cv, .int .i64 ql] 34)))
  have B3 : Hid (L5.Box ((w.alloc (.cells #[.string (bs nm), .slice ao ps.length ca, .int .i64 rt, .slice bo bl.length cb, .int .i64 pl] 34)).alloc (.cells #[.string (bs nm), .slice uo ps.length cu, .int .i64 rt, .slice vo bl.length cv, .int .i64 ql] 34)) (w.heap.size + 1) [.string (bs nm), .slice uo ps.length cu, .int .i64 rt, .slice vo bl.length cv, .int .i64 ql]) := hide (by
    have := L5.Box.new (w.alloc (.cells #[.string (bs nm), .slice ao ps.length ca, .int .i64 rt, .slice bo bl.length cb, .int .i64 pl] 34)) [.string (bs nm), .slice uo ps.length cu, .int .i64 rt, .slice vo bl.length cv, .int .i64 ql] 34
    rwa [show (w.alloc (.cells #[.string (bs nm), .slice ao ps.length ca, .int .i64 rt, .slice bo bl.length cb, .int .i64 pl] 34)).heap.size = w.heap.size + 1 from by simp] at this)
  have H1 := hide (ha.below b0)
  have H2 := hide (hb.stay (stay_below b0))
  have H3 := hide (hu.below b0)
  have H4 := hide (hv.stay (stay_below b0))
  have b0 := hide b0
  clear ha hb hu hv B1
  go_enter Tryd.func19, Tryd.ntmps19
  go_upto_region 1 with fail
  show Code.wp _ _ _ _ ((w.alloc (.cells #[.string (bs nm), .slice ao ps.length ca, .int .i64 rt, .slice bo bl.length cb, .int .i64 pl] 34)).alloc (.cells #[.string (bs nm), .slice uo ps.length cu, .int .i64 rt, .slice vo bl.length cv, .int .i64 ql] 34))
  generalize (w.alloc (.cells #[.string (bs nm), .slice ao ps.length ca, .int .i64 rt, .slice bo bl.length cb, .int .i64 pl] 34)).alloc (.cells #[.string (bs nm), .slice uo ps.length cu, .int .i64 rt, .slice vo bl.length cv, .int .i64 ql] 34) = W at *
  have x0 := B2.out.2 0 _ rfl
  have x1 := B2.out.2 1 _ rfl
  have x2 := B2.out.2 2 _ rfl
  have y0 := B3.out.2 0 _ rfl
  have y1 := B3.out.2 1 _ rfl
  have y2 := B3.out.2 2 _ rfl
  go_wp2_with fail
  refine (ints_same ps ao uo ca cu _ lp H1.out H3.out).mono ?_; rintro e w1 ⟨rfl, b1⟩
  clear x0 x1 x2 y0 y1 y2 H1 H3
  have x3 := (B2.out.below b1).2 3 _ rfl
  have y3 := (B3.out.below b1).2 3 _ rfl
  replace b1 := hide b1
  go_wp2_with fail
  clear x3 y3
  unfold maxLen at lb
  go_loopw [5] (fun k wr => ∃ K : Nat, k = .int .i64 K ∧ K ≤ bl.length ∧ Below W.heap.size W wr) (fun k _ => bl.length - (intOf k).toNat)
  case atStart => exact ⟨0, rfl, Nat.zero_le _, b1.out⟩
  case round =>
    obtain ⟨K, rfl, hK, hB⟩ := hrel
    have x3 := (B2.out.below hB).2 3 _ rfl
    replace hB := hide hB
    by_cases hkt : K < bl.length
    · obtain ⟨b, hbK⟩ : ∃ b, bl[K]? = some b := ⟨bl[K], List.getElem?_eq_some_iff.2 ⟨hkt, rfl⟩⟩
      obtain ⟨gb, vk, rfl, e1, k3, k4, kd, kk⟩ := H2.out.blk K _ (map_at hbK)
      clear e1
      obtain ⟨gc, vl, rfl, _, k5, k6, ke, kl⟩ := H4.out.blk K _ hbK
      obtain ⟨aok, capk, hvk⟩ := kk.len
      rw [List.length_map] at hvk
      subst hvk
      obtain ⟨aol, capl, rfl⟩ := kl.len
      have gk := hide (World.block_lt_of_cell? W _ kd)
      have gl := hide (World.block_lt_of_cell? W _ ke)
      have lk : b.length ≤ maxLen := by
        obtain ⟨cs, o1, _⟩ := kl
        rcases own_view o1 with ⟨_, hn⟩ | ⟨g, cap', hv, a1, a2, _⟩
        · rw [hn]; exact Nat.zero_le _
        · exact Nat.le_trans a1 a2
      unfold maxLen at lk
      replace kk := hide kk
      replace kl := hide kl
      replace kd := hide kd
      replace ke := hide ke
      have hB2 := fun x => below_step hB.out (L5.grewTo_below wr x)
      have u3 := fun x => (B2.out.below (hB2 x)).2 3 _ rfl
      have v3 := fun x => (B3.out.below (hB2 x)).2 3 _ rfl
      have ud := fun x => ((hB2 x).cell (p := ⟨gb, K, none⟩) gk.out).trans kd.out
      have vd := fun x => ((hB2 x).cell (p := ⟨gc, K, none⟩) gl.out).trans ke.out
      replace hB2 := hide hB2
      go_wp2_with fail
      refine L5.region_grew (by kernel_rfl) (by kernel_rfl) ?_
      repeat (go_big_quiet_step (fail))
      refine wpQuiet_nil ?_
      rintro _ ⟨x, rfl⟩
      clear u3 v3 ud vd x3
      have hBx := hide (hB2.out x)
      go_wp2_with fail
      obtain ⟨wo, hwo⟩ : ∃ wo : World, wo = L5.grewTo wr x := ⟨_, rfl⟩
      rw [← hwo] at hBx
      rw [← hwo]
      clear hB2 hB hwo
      go_loopw [6] (fun j wr => ∃ J : Nat, j = .int .i64 J ∧ J ≤ b.length ∧ Below W.heap.size W wr) (fun j _ => b.length - (intOf j).toNat)
      case atStart => exact ⟨0, rfl, Nat.zero_le _, hBx.out⟩
      case round =>
        obtain ⟨J, rfl, hJ, hB⟩ := hrel
        have x3 := (B2.out.below hB).2 3 _ rfl
        have xd := (hB.cell (p := ⟨gb, K, none⟩) gk.out).trans kd.out
        replace hB := hide hB
        by_cases hjt : J < b.length
        · obtain ⟨y, hyJ⟩ : ∃ y, b[J]? = some y := ⟨b[J], List.getElem?_eq_some_iff.2 ⟨hjt, rfl⟩⟩
          obtain ⟨op, id, nn, ty, ar, tt, na, pp⟩ := y
          have hB2 := fun x => below_step hB.out (L5.grewTo_below wr x)
          obtain ⟨g1, va, vt, rfl, e1, k7, k8, kc, kf, kg⟩ := kk.out.ins J _ (map_at hyJ)
          clear e1
          obtain ⟨g2, va', vt', rfl, _, k9, k10, kc', kf', kg'⟩ := kl.out.ins J _ hyJ
          obtain ⟨oa, ca1, rfl, sa, la⟩ := sl_long (l := ar) kf
          obtain ⟨ot, ct1, rfl, st, lt⟩ := sl_long (l := tt) kg
          obtain ⟨oa', ca2, rfl, sa', _⟩ := sl_long (l := ar) kf'
          obtain ⟨ot', ct2, rfl, st', _⟩ := sl_long (l := tt) kg'
          have S1 := hide (fun x => sa.below (hB2 x))
          have S2 := hide (fun x => st.below (hB2 x))
          have S3 := hide (fun x => sa'.below (hB2 x))
          have S4 := hide (fun x => st'.below (hB2 x))
          have q1 : g1 < W.heap.size := World.block_lt_of_cell? W _ (kc 0 _ rfl)
          have q2 : g2 < W.heap.size := World.block_lt_of_cell? W _ (kc' 0 _ rfl)
          have u3 := fun x => (B2.out.below (hB2 x)).2 3 _ rfl
          have v3 := fun x => (B3.out.below (hB2 x)).2 3 _ rfl
          have ud := fun x => ((hB2 x).cell (p := ⟨gb, K, none⟩) gk.out).trans kd.out
          have vd := fun x => ((hB2 x).cell (p := ⟨gc, K, none⟩) gl.out).trans ke.out
          have m0 : ∀ x, (L5.grewTo wr x).cell? ⟨g1, J * 8, none⟩ = some (.int .i64 op) := fun x => ((hB2 x).cell (p := ⟨g1, J * 8, none⟩) q1).trans (kc 0 _ rfl)
          have m1 : ∀ x, (L5.grewTo wr x).cell? ⟨g1, J * 8 + 1, none⟩ = some (.int .i64 id) := fun x => ((hB2 x).cell (p := ⟨g1, J * 8 + 1, none⟩) q1).trans (kc 1 _ rfl)
          have m2 : ∀ x, (L5.grewTo wr x).cell? ⟨g1, J * 8 + 2, none⟩ = some (.int .i64 nn) := fun x => ((hB2 x).cell (p := ⟨g1, J * 8 + 2, none⟩) q1).trans (kc 2 _ rfl)
          have m3 : ∀ x, (L5.grewTo wr x).cell? ⟨g1, J * 8 + 3, none⟩ = some (.int .i64 ty) := fun x => ((hB2 x).cell (p := ⟨g1, J * 8 + 3, none⟩) q1).trans (kc 3 _ rfl)
          have m4 : ∀ x, (L5.grewTo wr x).cell? ⟨g1, J * 8 + 4, none⟩ = some (.slice oa ar.length ca1) := fun x => ((hB2 x).cell (p := ⟨g1, J * 8 + 4, none⟩) q1).trans (kc 4 _ rfl)
          have m5 : ∀ x, (L5.grewTo wr x).cell? ⟨g1, J * 8 + 5, none⟩ = some (.slice ot tt.length ct1) := fun x => ((hB2 x).cell (p := ⟨g1, J * 8 + 5, none⟩) q1).trans (kc 5 _ rfl)
          have m6 : ∀ x, (L5.grewTo wr x).cell? ⟨g1, J * 8 + 6, none⟩ = some (.string (bs na)) := fun x => ((hB2 x).cell (p := ⟨g1, J * 8 + 6, none⟩) q1).trans (kc 6 _ rfl)
          have m7 : ∀ x, (L5.grewTo wr x).cell? ⟨g1, J * 8 + 7, none⟩ = some (.int .i64 (pp + d)) := fun x => ((hB2 x).cell (p := ⟨g1, J * 8 + 7, none⟩) q1).trans (kc 7 _ rfl)
          have n0 : ∀ x, (L5.grewTo wr x).cell? ⟨g2, J * 8, none⟩ = some (.int .i64 op) := fun x => ((hB2 x).cell (p := ⟨g2, J * 8, none⟩) q2).trans (kc' 0 _ rfl)
          have n1 : ∀ x, (L5.grewTo wr x).cell? ⟨g2, J * 8 + 1, none⟩ = some (.int .i64 id) := fun x => ((hB2 x).cell (p := ⟨g2, J * 8 + 1, none⟩) q2).trans (kc' 1 _ rfl)
          have n2 : ∀ x, (L5.grewTo wr x).cell? ⟨g2, J * 8 + 2, none⟩ = some (.int .i64 nn) := fun x => ((hB2 x).cell (p := ⟨g2, J * 8 + 2, none⟩) q2).trans (kc' 2 _ rfl)
          have n3 : ∀ x, (L5.grewTo wr x).cell? ⟨g2, J * 8 + 3, none⟩ = some (.int .i64 ty) := fun x => ((hB2 x).cell (p := ⟨g2, J * 8 + 3, none⟩) q2).trans (kc' 3 _ rfl)
          have n4 : ∀ x, (L5.grewTo wr x).cell? ⟨g2, J * 8 + 4, none⟩ = some (.slice oa' ar.length ca2) := fun x => ((hB2 x).cell (p := ⟨g2, J * 8 + 4, none⟩) q2).trans (kc' 4 _ rfl)
          have n5 : ∀ x, (L5.grewTo wr x).cell? ⟨g2, J * 8 + 5, none⟩ = some (.slice ot' tt.length ct2) := fun x => ((hB2 x).cell (p := ⟨g2, J * 8 + 5, none⟩) q2).trans (kc' 5 _ rfl)
          have n6 : ∀ x, (L5.grewTo wr x).cell? ⟨g2, J * 8 + 6, none⟩ = some (.string (bs na)) := fun x => ((hB2 x).cell (p := ⟨g2, J * 8 + 6, none⟩) q2).trans (kc' 6 _ rfl)
          have n7 : ∀ x, (L5.grewTo wr x).cell? ⟨g2, J * 8 + 7, none⟩ = some (.int .i64 pp) := fun x => ((hB2 x).cell (p := ⟨g2, J * 8 + 7, none⟩) q2).trans (kc' 7 _ rfl)
          replace hB2 := hide hB2
          clear kc kc' kf kf' kg kg' sa st sa' st'
          go_wp2_with fail
          refine L5.region_grew (by kernel_rfl) (by kernel_rfl) ?_
          repeat (go_big_quiet_step ((go_at_call 28; exact L5.calls_grew (same_ins op id nn ty (pp + d) pp ar tt (bs na) oa ot oa' ot' ca1 ct1 ca2 ct2 _ la lt (S1.out _) (S2.out _) (S3.out _) (S4.out _)))))
          refine wpQuiet_nil ?_
          rintro _ ⟨x, rfl⟩
          clear u3 v3 ud vd x3 xd m0 m1 m2 m3 m4 m5 m6 m7 n0 n1 n2 n3 n4 n5 n6 n7
          go_wp2_with fail
          go_roundw
          case rel => exact ⟨J + 1, by go_num, by omega, hB2.out x⟩
          case measure => simp [intOf]; omega
        · obtain rfl : J = b.length := by omega
          go_wp2_with fail
          go_roundw
          case rel => exact ⟨K + 1, by go_num, by omega, hB.out⟩
          case measure => simp [intOf]; omega
    · have hge : ¬ ((K : Int) < (bl.length : Int)) := by omega
      clear hkt
      go_wp2_with fail
      go_ret
      exact ⟨rfl, below_step b0.out hB.out⟩
end Go.Proofs.YtkkkgennkhdfhaaDoor
