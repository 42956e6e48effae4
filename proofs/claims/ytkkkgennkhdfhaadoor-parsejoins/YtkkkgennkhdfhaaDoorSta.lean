/- What the statement ParseStands returns, for every input: true. -/
import Derived.Test.YtkkkgennkhdfhaaDoorFit
namespace Go.Proofs.YtkkkgennkhdfhaaDoor
open Go Go.RowKit
open G (Tok Er Ins Fun)

theorem rname_true {x : List UInt8} (h : namF x = true) (w : World) : Calls Tryd.prog 8 #[.string (bs x)] w fun e w' => e = .returned (.bool true) ∧ w' = w := by
  have hl := name_short h
  refine (L2.rname_any (bs x) w (by rw [bs_size]; unfold maxLen; omega)).mono ?_
  rintro e w' ⟨rfl, rfl⟩
  rw [bs_data]
  exact ⟨ret_bool h, rfl⟩
theorem drop_sum {α : Type} (f : α → Nat) {l : List α} {i : Nat} {x : α} (h : l[i]? = some x) : ((l.drop i).map f).sum = f x + ((l.drop (i + 1)).map f).sum := by
  obtain ⟨hi, rfl⟩ := List.getElem?_eq_some_iff.1 h
  rw [List.drop_eq_getElem_cons hi, List.map_cons, List.sum_cons]

theorem stands_long (s : ByteArray) (w : World) (hs : 2500 < s.size) (ht : Tabs w) (hw : 2 ≤ w.heap.size) : Calls Tryd.prog 3 #[.string s] w fun e w' => e = .returned (.bool true) ∧ Below w.heap.size w w' := by
  have T0 := hide ht
  clear ht
  go_enter Tryd.func3, Tryd.ntmps3
  go_wp2_with fail
  refine (works_any _ T0.out hw).mono ?_; rintro e w1 ⟨rfl, b1⟩
  go_wp2_with fail
  go_ret
  exact ⟨rfl, b1⟩

theorem stands_bad (s : ByteArray) (w : World) (er : Er) (hx : textG s = .error er) (hs : ¬ 2500 < s.size) (ht : Tabs w) (hw : 2 ≤ w.heap.size) : Calls Tryd.prog 3 #[.string s] w fun e w' => e = .returned (.bool true) ∧ Below w.heap.size w w' := by
  obtain ⟨c, p⟩ := er
  have T0 := hide ht
  replace hx := hide hx
  obtain ⟨e1, e2, e3⟩ := text_err hx.out
  replace e1 : c ≠ 0 := e1
  replace e2 : 0 ≤ p := e2
  replace e3 : p ≤ s.size := e3
  have e4 : (c == 0) = false := by simpa using e1
  have e5 : (c != 0) = true := by simpa using e1
  clear ht
  go_enter Tryd.func3, Tryd.ntmps3
  go_wp2_with fail
  refine (text_any s _ (by omega) T0.out hw).mono ?_; rintro e w1 ⟨b1, ⟨xs, v, hy, _⟩ | ⟨er, hy, rfl⟩⟩
  · rw [hx.out] at hy; cases hy
  rw [hx.out] at hy; cases hy
  obtain ⟨b2, c2, d2⟩ := boxes_ok w1 (.slice none 0 0) (.int .i64 c) (.int .i64 p)
  have B2 := hide (below_step b1 b2)
  have T2 := hide ((T0.out.below b1).below b2)
  have h2 : w1.heap.size + 1 < (boxes w1 (.slice none 0 0) (.int .i64 c) (.int .i64 p)).heap.size := (Array.getElem?_eq_some_iff.1 d2).1
  have hw1 := b1.size
  have q0 : (boxes w1 (.slice none 0 0) (.int .i64 c) (.int .i64 p)).cell? ⟨w1.heap.size, 0, none⟩ = some (.slice none 0 0) := by simp [World.cell?, c2]
  have q1 : (boxes w1 (.slice none 0 0) (.int .i64 c) (.int .i64 p)).cell? ⟨w1.heap.size + 1, 0, none⟩ = some (.int .i64 c) := by simp [World.cell?, d2]
  have q2 : (boxes w1 (.slice none 0 0) (.int .i64 c) (.int .i64 p)).cell? ⟨w1.heap.size + 1, 1, none⟩ = some (.int .i64 p) := by simp [World.cell?, d2]
  clear b1 b2 c2 d2
  go_upto_region 4 with fail
  show Code.wp _ _ _ _ (boxes w1 (.slice none 0 0) (.int .i64 c) (.int .i64 p))
  generalize boxes w1 (.slice none 0 0) (.int .i64 c) (.int .i64 p) = W2 at *
  go_wp2_with fail
  refine (works_any _ T2.out (by omega)).mono ?_; rintro e w3 ⟨rfl, b3⟩
  go_wp2_with fail
  go_ret
  exact ⟨rfl, below_step B2.out b3⟩

set_option maxHeartbeats 1000000 in
set_option maxRecDepth 4000 in
theorem stands_good (s : ByteArray) (w : World) (xs : List Fun) (hx : textG s = .ok xs) (hs : ¬ 2500 < s.size) (ht : Tabs w) (hw : 2 ≤ w.heap.size) : Calls Tryd.prog 3 #[.string s] w fun e w' => e = .returned (.bool true) ∧ Below w.heap.size w w' := by
  have T0 := hide ht
  replace hx := hide hx
  obtain ⟨hx1, hx2, hx3⟩ := text_fine hx.out
  replace hx2 := hide hx2
  clear ht
  go_enter Tryd.func3, Tryd.ntmps3
  go_wp2_with fail
  refine (text_any s _ (by omega) T0.out hw).mono ?_; rintro e w1 ⟨b1, ⟨ys, v, hy, rfl, hV⟩ | ⟨er, hy, _⟩⟩
  rotate_left
  · rw [hx.out] at hy; cases hy
  rw [hx.out] at hy; cases hy
  obtain ⟨ao, cap, rfl⟩ := hV.len
  obtain ⟨b2, c2, d2⟩ := boxes_ok w1 (.slice ao xs.length cap) (.int .i64 0) (.int .i64 0)
  have B2 := hide (below_step b1 b2)
  have T2 := hide ((T0.out.below b1).below b2)
  have V2 := hide (hV.below b2)
  have h2 : w1.heap.size + 1 < (boxes w1 (.slice ao xs.length cap) (.int .i64 0) (.int .i64 0)).heap.size := (Array.getElem?_eq_some_iff.1 d2).1
  have hw1 := b1.size
  have q0 : (boxes w1 (.slice ao xs.length cap) (.int .i64 0) (.int .i64 0)).cell? ⟨w1.heap.size, 0, none⟩ = some (.slice ao xs.length cap) := by simp [World.cell?, c2]
  have q1 : (boxes w1 (.slice ao xs.length cap) (.int .i64 0) (.int .i64 0)).cell? ⟨w1.heap.size + 1, 0, none⟩ = some (.int .i64 0) := by simp [World.cell?, d2]
  clear b1 b2 c2 d2 hV hx
  go_upto_region 4 with fail
  show Code.wp _ _ _ _ (boxes w1 (.slice ao xs.length cap) (.int .i64 0) (.int .i64 0))
  generalize boxes w1 (.slice ao xs.length cap) (.int .i64 0) (.int .i64 0) = W2 at *
  generalize w1.heap.size = q at *
  go_wp2_with fail
  replace q0 := hide q0
  clear q1
  go_loopw [5, 6] (fun n i wr => ∃ (N I : Nat), n = .int .i64 N ∧ i = .int .i64 I ∧ I ≤ xs.length ∧ N + ((xs.drop I).map szF).sum = (xs.map szF).sum ∧ Below W2.heap.size W2 wr) (fun _ i _ => xs.length - (intOf i).toNat)
  case atStart => exact ⟨0, 0, rfl, rfl, Nat.zero_le _, by simp, Below.refl _ _⟩
  case round =>
    obtain ⟨N, I, rfl, rfl, hI, hN, hB⟩ := hrel
    have z0 : wr.cell? ⟨q, 0, none⟩ = some (.slice ao xs.length cap) := (hB.cell (p := ⟨q, 0, none⟩) (show q < W2.heap.size by omega)).trans q0.out
    have V3 := hide (V2.out.below hB)
    replace hB := hide hB
    by_cases hlt : I < xs.length
    · obtain ⟨x, hxI⟩ : ∃ x, xs[I]? = some x := ⟨xs[I], List.getElem?_eq_some_iff.2 ⟨hlt, rfl⟩⟩
      have HD := drop_sum szF hxI
      obtain ⟨nm, ps, rt, bl, pl⟩ := x
      obtain ⟨f1, f2, f3, f4⟩ := hx2.out _ (List.mem_of_getElem? hxI)
      replace f1 : Hid (namF nm = true) := hide f1
      replace f2 : ps.length ≤ 8 := f2
      replace f3 : bl.length ≤ 256 := f3
      replace f4 : Hid (∀ b ∈ bl, ∀ i ∈ b, FineI s.size i) := hide f4
      replace HD : ((xs.drop I).map szF).sum = (bl.map List.length).sum + ((xs.drop (I + 1)).map szF).sum := HD
      obtain ⟨g, vp, vb, rfl, _, k1, k2, kc, kp, kb⟩ := V3.out.fn I _ hxI
      obtain ⟨aop, capp, rfl⟩ := own_len kp
      obtain ⟨aob, capb, rfl⟩ := kb.len
      have c0 : wr.cell? ⟨g, I * 5, none⟩ = some (.string (bs nm)) := kc 0 _ rfl
      have c1 : wr.cell? ⟨g, I * 5 + 1, none⟩ = some (.slice aop ps.length capp) := kc 1 _ rfl
      have c2 : wr.cell? ⟨g, I * 5 + 2, none⟩ = some (.int .i64 rt) := kc 2 _ rfl
      have c3 : wr.cell? ⟨g, I * 5 + 3, none⟩ = some (.slice aob bl.length capb) := kc 3 _ rfl
      have c4 : wr.cell? ⟨g, I * 5 + 4, none⟩ = some (.int .i64 pl) := kc 4 _ rfl
      have b3 := below_box wr (.cells #[.string (bs nm), .slice aop ps.length capp, .int .i64 rt, .slice aob bl.length capb, .int .i64 pl] 34)
      have B3 := hide (below_step hB.out b3)
      have KB : Hid (BlksVal w.heap.size bl (.slice aob bl.length capb) (wr.alloc (.cells #[.string (bs nm), .slice aop ps.length capp, .int .i64 rt, .slice aob bl.length capb, .int .i64 pl] 34))) := hide (kb.stay (stay_below b3))
      have BX := hide (L5.Box.new wr [.string (bs nm), .slice aop ps.length capp, .int .i64 rt, .slice aob bl.length capb, .int .i64 pl] 34)
      clear kc kp kb V3 hB b3
      go_upto_region 11 with fail
      show Code.wp _ _ _ _ (wr.alloc (.cells #[.string (bs nm), .slice aop ps.length capp, .int .i64 rt, .slice aob bl.length capb, .int .i64 pl] 34))
      clear c0 c1 c2 c3 c4 z0
      replace BX : Hid (L5.Box (wr.alloc (.cells #[.string (bs nm), .slice aop ps.length capp, .int .i64 rt, .slice aob bl.length capb, .int .i64 pl] 34)) wr.heap.size [.string (bs nm), .slice aop ps.length capp, .int .i64 rt, .slice aob bl.length capb, .int .i64 pl]) := BX
      generalize wr.alloc (.cells #[.string (bs nm), .slice aop ps.length capp, .int .i64 rt, .slice aob bl.length capb, .int .i64 pl] 34) = W3 at *
      generalize wr.heap.size = c at *
      have c0 : W3.cell? ⟨c, 0, none⟩ = some (.string (bs nm)) := BX.out.2 0 _ rfl
      have c1 : W3.cell? ⟨c, 1, none⟩ = some (.slice aop ps.length capp) := BX.out.2 1 _ rfl
      have c3 : W3.cell? ⟨c, 3, none⟩ = some (.slice aob bl.length capb) := BX.out.2 3 _ rfl
      go_wp2_with fail
      refine (rname_true f1.out _).mono ?_; rintro e w0 ⟨rfl, hE⟩; obtain rfl : W3 = w0 := hE.symm
      clear c0 c1 c3 hE
      go_wp2_with fail
      obtain ⟨wo, rfl⟩ : ∃ wo : World, wo = wr := ⟨_, rfl⟩
      generalize hR1 : ((xs.drop (I + 1)).map szF).sum = R1 at *
      generalize hTT : (xs.map szF).sum = TT at *
      go_loopw [5, 8] (fun n k wr => ∃ (M K : Nat), n = .int .i64 M ∧ k = .int .i64 K ∧ K ≤ bl.length ∧ M + ((bl.drop K).map List.length).sum + R1 = TT ∧ Below W3.heap.size W3 wr) (fun _ k _ => bl.length - (intOf k).toNat)
      case atStart => exact ⟨N, 0, rfl, rfl, Nat.zero_le _, by rw [List.drop_zero]; omega, Below.refl _ _⟩
      case round =>
        obtain ⟨M, K, rfl, rfl, hK, hM, hB⟩ := hrel
        have c3 : wr.cell? ⟨c, 3, none⟩ = some (.slice aob bl.length capb) := (BX.out.below hB).2 3 _ rfl
        have KB2 := hide (KB.out.stay (stay_below hB))
        replace hB := hide hB
        by_cases hkt : K < bl.length
        · obtain ⟨b, hbK⟩ : ∃ b, bl[K]? = some b := ⟨bl[K], List.getElem?_eq_some_iff.2 ⟨hkt, rfl⟩⟩
          have HD2 := drop_sum List.length hbK
          have f5 := hide (f4.out b (List.mem_of_getElem? hbK))
          obtain ⟨gb, vk, rfl, _, k3, k4, kd, kk⟩ := KB2.out.blk K _ hbK
          obtain ⟨aok, capk, rfl⟩ := kk.len
          generalize hR2 : ((bl.drop (K + 1)).map List.length).sum = R2 at *
          clear kk
          go_wp2_with fail
          clear kd c3
          obtain ⟨wp, rfl⟩ : ∃ wp : World, wp = wr := ⟨_, rfl⟩
          go_loopw [5, 9] (fun n j wr => ∃ (P J : Nat), n = .int .i64 P ∧ j = .int .i64 J ∧ J ≤ b.length ∧ P + (b.length - J) + R2 + R1 = TT ∧ Below W3.heap.size W3 wr) (fun _ j _ => b.length - (intOf j).toNat)
          case atStart => exact ⟨M, 0, rfl, rfl, Nat.zero_le _, by omega, hB.out⟩
          case round =>
            obtain ⟨P, J, rfl, rfl, hJ, hP, hB3⟩ := hrel
            have c3 : wr.cell? ⟨c, 3, none⟩ = some (.slice (some ⟨gb, 0, none⟩) bl.length capb) := (BX.out.below hB3).2 3 _ rfl
            have KB3 := KB.out.stay (stay_below hB3)
            obtain ⟨gb', vk', e1, _, _, _, kd, kk⟩ := KB3.blk K _ hbK
            obtain rfl : gb = gb' := by injection e1 with e1; injection e1
            obtain ⟨aok', capk', rfl⟩ := kk.len
            clear KB3 e1
            replace hB3 := hide hB3
            by_cases hjt : J < b.length
            · obtain ⟨y, hyJ⟩ : ∃ y, b[J]? = some y := ⟨b[J], List.getElem?_eq_some_iff.2 ⟨hjt, rfl⟩⟩
              obtain ⟨m1, m2, m3⟩ := f5.out y (List.mem_of_getElem? hyJ)
              obtain ⟨op, id, nn, ty, ar, tt, na, pp⟩ := y
              obtain ⟨gk, va, vt, rfl, _, k5, k6, ke, kf, kg⟩ := kk.ins J _ hyJ
              obtain ⟨aoa, capa, rfl⟩ := own_len kf
              obtain ⟨aot, capt, rfl⟩ := own_len kg
              have u0 : wr.cell? ⟨gk, J * 8, none⟩ = some (.int .i64 op) := ke 0 _ rfl
              have u1 : wr.cell? ⟨gk, J * 8 + 1, none⟩ = some (.int .i64 id) := ke 1 _ rfl
              have u2 : wr.cell? ⟨gk, J * 8 + 2, none⟩ = some (.int .i64 nn) := ke 2 _ rfl
              have u3 : wr.cell? ⟨gk, J * 8 + 3, none⟩ = some (.int .i64 ty) := ke 3 _ rfl
              have u4 : wr.cell? ⟨gk, J * 8 + 4, none⟩ = some (.slice aoa ar.length capa) := ke 4 _ rfl
              have u5 : wr.cell? ⟨gk, J * 8 + 5, none⟩ = some (.slice aot tt.length capt) := ke 5 _ rfl
              have u6 : wr.cell? ⟨gk, J * 8 + 6, none⟩ = some (.string (bs na)) := ke 6 _ rfl
              have u7 : wr.cell? ⟨gk, J * 8 + 7, none⟩ = some (.int .i64 pp) := ke 7 _ rfl
              replace m1 : decide (mksF op ty ≠ 0) = decide (0 ≤ id) := m1
              replace m2 : id ≤ 1048576 := m2
              replace m3 : pp < (s.size : Int) := m3
              clear ke kf kg kk
              have b4 := below_box wr (.cells #[.int .i64 op, .int .i64 id, .int .i64 nn, .int .i64 ty, .slice aoa ar.length capa, .slice aot tt.length capt, .string (bs na), .int .i64 pp] 38)
              have B4 := hide (below_step hB3.out b4)
              have BY : Hid (L5.Box (wr.alloc (.cells #[.int .i64 op, .int .i64 id, .int .i64 nn, .int .i64 ty, .slice aoa ar.length capa, .slice aot tt.length capt, .string (bs na), .int .i64 pp] 38)) wr.heap.size [.int .i64 op, .int .i64 id, .int .i64 nn, .int .i64 ty, .slice aoa ar.length capa, .slice aot tt.length capt, .string (bs na), .int .i64 pp]) := hide (L5.Box.new wr [.int .i64 op, .int .i64 id, .int .i64 nn, .int .i64 ty, .slice aoa ar.length capa, .slice aot tt.length capt, .string (bs na), .int .i64 pp] 38)
              clear b4
              go_upto_region 21 with fail
              show Code.wp _ _ _ _ (wr.alloc (.cells #[.int .i64 op, .int .i64 id, .int .i64 nn, .int .i64 ty, .slice aoa ar.length capa, .slice aot tt.length capt, .string (bs na), .int .i64 pp] 38))
              clear u0 u1 u2 u3 u4 u5 u6 u7 kd c3
              generalize wr.alloc (.cells #[.int .i64 op, .int .i64 id, .int .i64 nn, .int .i64 ty, .slice aoa ar.length capa, .slice aot tt.length capt, .string (bs na), .int .i64 pp] 38) = W4 at *
              generalize wr.heap.size = d at *
              have u0 := fun x => (L5.grew_box BY.out x).2 0 _ rfl
              have u1 := fun x => (L5.grew_box BY.out x).2 1 _ rfl
              have u2 := fun x => (L5.grew_box BY.out x).2 2 _ rfl
              have u3 := fun x => (L5.grew_box BY.out x).2 3 _ rfl
              have u4 := fun x => (L5.grew_box BY.out x).2 4 _ rfl
              have u5 := fun x => (L5.grew_box BY.out x).2 5 _ rfl
              have u6 := fun x => (L5.grew_box BY.out x).2 6 _ rfl
              have u7 := fun x => (L5.grew_box BY.out x).2 7 _ rfl
              have g2 : decide (1048576 < id) = false := by simp; omega
              have g3 : decide ((s.size : Int) ≤ pp) = false := by simp; omega
              unfold mksF at m1
              by_cases hm : L5.imakes op ty = 0
              · have n1 : (L5.imakes op ty == 0) = true := by simpa using hm
                have n2 : (L5.imakes op ty != 0) = false := by simpa using hm
                have n3 : decide (0 ≤ id) = false := by rw [← m1]; simpa using hm
                clear m1 hm
                refine L5.region_grew (by kernel_rfl) (by kernel_rfl) ?_
                repeat (go_big_quiet_step ((go_at_call 9; exact L5.calls_grew (L5.refMakes_any op ty _ _ _ _ _ _ _))))
                refine wpQuiet_nil ?_
                rintro _ ⟨x, rfl⟩
                clear u0 u1 u2 u3 u4 u5 u6 u7
                go_wp2_with fail
                go_roundw
                case rel => exact ⟨P + 1, J + 1, by go_num, by go_num, by omega, by omega, below_step B4.out (L5.grewTo_below _ x)⟩
                case measure => simp [intOf]; omega
              · have n1 : (L5.imakes op ty == 0) = false := by simpa using hm
                have n2 : (L5.imakes op ty != 0) = true := by simpa using hm
                have n3 : decide (0 ≤ id) = true := by rw [← m1]; simpa using hm
                clear m1 hm
                refine L5.region_grew (by kernel_rfl) (by kernel_rfl) ?_
                repeat (go_big_quiet_step ((go_at_call 9; exact L5.calls_grew (L5.refMakes_any op ty _ _ _ _ _ _ _))))
                refine wpQuiet_nil ?_
                rintro _ ⟨x, rfl⟩
                clear u0 u1 u2 u3 u4 u5 u6 u7
                go_wp2_with fail
                go_roundw
                case rel => exact ⟨P + 1, J + 1, by go_num, by go_num, by omega, by omega, below_step B4.out (L5.grewTo_below _ x)⟩
                case measure => simp [intOf]; omega
            · obtain rfl : J = b.length := by omega
              clear kk
              go_wp2_with fail
              go_roundw
              case rel => exact ⟨P, K + 1, rfl, by go_num, by omega, by rw [hR2]; omega, hB3.out⟩
              case measure => simp [intOf]; omega
        · have e0 : ((bl.drop K).map List.length).sum = 0 := by rw [List.drop_of_length_le (by omega)]; rfl
          have hM2 : M + R1 = TT := by omega
          have hge : ¬ ((K : Int) < (bl.length : Int)) := by omega
          clear e0 hM HD hN KB2 hkt
          go_wp2_with fail
          go_roundw
          case rel => exact ⟨M, I + 1, rfl, by go_num, by omega, by rw [hR1]; omega, below_step B3.out hB.out⟩
          case measure => simp [intOf]; omega
    · obtain rfl : I = xs.length := by omega
      have e0 : ((xs.drop xs.length).map szF).sum = 0 := by simp
      have hN4 : N ≤ 4096 := by omega
      go_wp2_with fail
      refine (works_any _ (T2.out.below hB.out) (by have := hB.out.size; omega)).mono ?_; rintro e w3 ⟨rfl, b3⟩
      go_wp2_with fail
      go_ret
      exact ⟨rfl, below_step (below_step B2.out hB.out) b3⟩

theorem lawStands (s : ByteArray) (w : World) (ht : Tabs w) (hw : 2 ≤ w.heap.size) : Calls Tryd.prog 3 #[.string s] w fun e w' => e = .returned (.bool true) ∧ Below w.heap.size w w' := by
  by_cases hs : 2500 < s.size
  · exact stands_long s w hs ht hw
  · cases h : textG s with
    | error er => exact stands_bad s w er h hs ht hw
    | ok xs => exact stands_good s w xs h hs ht hw
end Go.Proofs.YtkkkgennkhdfhaaDoor
