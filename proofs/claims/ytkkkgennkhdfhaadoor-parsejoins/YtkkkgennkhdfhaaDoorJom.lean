/- Two programs' texts, one behind the other: what the statement ParseJoins returns there. -/
import Derived.Test.YtkkkgennkhdfhaaDoorJoi
namespace Go.Proofs.YtkkkgennkhdfhaaDoor
open Go Go.RowKit
open G (Tok Er Ins Fun shI shF)

theorem same_at {xs : List Fun} (us : List Fun) (n : Nat) (e : us.length = n) (hlike : ∀ (i : Nat) (y : Fun), us[i]? = some y → ∃ d, xs[i]? = some (shF d y)) (ao bo : Option Addr) (ca cb : Nat) (w : World) (hle : us.length ≤ 64)
    (hx : ProgVal 0 xs (.slice ao n ca) w) (hy : ProgVal 0 us (.slice bo n cb) w) : Calls Tryd.prog 12 #[.agg #[.slice ao n ca], .agg #[.slice bo n cb]] w fun e w' => e = .returned (.bool true) ∧ Below w.heap.size w w' := by
  subst e
  exact same_prog xs us hlike ao bo ca cb 0 0 w hle hx hy
set_option maxHeartbeats 2000000 in
set_option maxRecDepth 4000 in
theorem joins_main (s t : ByteArray) (xs ys : List Fun) (hx1 : textG s = .ok xs) (hx2 : textG t = .ok ys) (hm : ¬ 32 < xs.length + ys.length) (w : World) (hs : ¬ 1500 < s.size) (hs2 : ¬ 1500 < t.size) (ht : Tabs w) (hw : 2 ≤ w.heap.size) : Calls Tryd.prog 5 #[.string s, .string t] w fun e w' => e = .returned (.bool true) ∧ Below w.heap.size w w' := by
  have T0 := hide ht
  clear ht
  replace hx1 := hide hx1
  replace hx2 := hide hx2
  have m1 := (text_fine hx1.out).1
  have m2 := (text_fine hx2.out).1
  go_enter Tryd.func5, Tryd.ntmps5
  go_wp2_with fail
  refine (text_any s _ (by omega) T0.out (by omega)).mono ?_; rintro e w1 ⟨b1, ⟨zs, v, hy, rfl, hV⟩ | ⟨er, hy, _⟩⟩
  rotate_left
  · rw [hx1.out] at hy; cases hy
  rw [hx1.out] at hy; cases hy
  obtain ⟨ao1, cap1, rfl⟩ := hV.len
  obtain ⟨b2, c1, d1⟩ := boxes_ok w1 (.slice ao1 xs.length cap1) (.int .i64 0) (.int .i64 0)
  have V1 := hide (hV.below b2)
  have h2 : w1.heap.size + 1 < (boxes w1 (.slice ao1 xs.length cap1) (.int .i64 0) (.int .i64 0)).heap.size := (Array.getElem?_eq_some_iff.1 d1).1
  have hw1 := b1.size
  replace b2 := below_step b1 b2
  have T2 := hide (T0.out.below b2)
  have q0 := hide d1
  have q1 := hide c1
  clear c1 d1 hV
  go_upto_region 4 with fail
  show Code.wp _ _ _ _ (boxes w1 (.slice ao1 xs.length cap1) (.int .i64 0) (.int .i64 0))
  generalize boxes w1 (.slice ao1 xs.length cap1) (.int .i64 0) (.int .i64 0) = W2 at *
  go_wp2_with fail
  refine (text_any t _ (by omega) T2.out (by omega)).mono ?_; rintro e w3 ⟨b3, ⟨zs, v, hy, rfl, hV⟩ | ⟨er, hy, _⟩⟩
  rotate_left
  · rw [hx2.out] at hy; cases hy
  rw [hx2.out] at hy; cases hy
  obtain ⟨ao2, cap2, rfl⟩ := hV.len
  obtain ⟨b4, c2, d2⟩ := boxes_ok w3 (.slice ao2 ys.length cap2) (.int .i64 0) (.int .i64 0)
  have V2 := hide (hV.below b4)
  have h4 : w3.heap.size + 1 < (boxes w3 (.slice ao2 ys.length cap2) (.int .i64 0) (.int .i64 0)).heap.size := (Array.getElem?_eq_some_iff.1 d2).1
  have hw3 := b3.size
  replace b4 := below_step b3 b4
  have T4 := hide (T2.out.below b4)
  have B4 := hide (below_step b2 b4)
  have U1 := hide (V1.out.below b4)
  have r0 := hide ((b4.block (w1.heap.size + 1) (by omega)).trans q0.out)
  have r1 := hide ((b4.block w1.heap.size (by omega)).trans q1.out)
  have r2 := hide c2
  have r3 := hide d2
  clear c2 d2 b4 b3 b2 b1 hV q0 q1 V1
  go_upto_region 5 with fail
  show Code.wp _ _ _ _ (boxes w3 (.slice ao2 ys.length cap2) (.int .i64 0) (.int .i64 0))
  generalize boxes w3 (.slice ao2 ys.length cap2) (.int .i64 0) (.int .i64 0) = W4 at *
  have y0 : W4.cell? ⟨w1.heap.size + 1, 0, none⟩ = some (.int .i64 0) := by simp [World.cell?, r0.out]
  have y1 : W4.cell? ⟨w3.heap.size + 1, 0, none⟩ = some (.int .i64 0) := by simp [World.cell?, r3.out]
  have y2 : W4.cell? ⟨w1.heap.size, 0, none⟩ = some (.slice ao1 xs.length cap1) := by simp [World.cell?, r1.out]
  have y3 : W4.cell? ⟨w3.heap.size, 0, none⟩ = some (.slice ao2 ys.length cap2) := by simp [World.cell?, r2.out]
  go_wp2_with fail
  generalize hJ : s ++ ⟨#[10]⟩ ++ t = J
  have hx3 : Hid (textG J = .ok (xs ++ ys.map (shF ((s.size : Int) + 1)))) := hide (by rw [← hJ]; exact text_join hx1.out hx2.out (by omega) (by omega) (by omega))
  have hsz : J.size ≤ 65536 := by
    have h1 : (⟨#[10]⟩ : ByteArray).size = 1 := rfl
    rw [← hJ, ByteArray.size_append, ByteArray.size_append, h1]; omega
  clear hJ
  refine (text_any J _ hsz T4.out (by omega)).mono ?_; rintro e w5 ⟨b5, ⟨zs, v, hy, rfl, hV⟩ | ⟨er, hy, _⟩⟩
  rotate_left
  · rw [hx3.out] at hy; cases hy
  obtain rfl : xs ++ ys.map (shF ((s.size : Int) + 1)) = zs := by rw [hx3.out] at hy; cases hy; rfl
  generalize (s.size : Int) + 1 = dd at hV hy hx3
  clear hy hx3 hx1 hx2
  obtain ⟨N, hN⟩ : ∃ N, xs.length + ys.length = N := ⟨_, rfl⟩
  have hN32 : N ≤ 32 := by omega
  obtain ⟨ao3, cap3, hv3⟩ := hV.len
  rw [show (xs ++ ys.map (shF dd)).length = N by simp; exact hN] at hv3
  subst hv3
  replace hN := hide hN
  obtain ⟨b6, c3, d3⟩ := boxes_ok w5 (.slice ao3 N cap3) (.int .i64 0) (.int .i64 0)
  have h6 : w5.heap.size + 1 < (boxes w5 (.slice ao3 N cap3) (.int .i64 0) (.int .i64 0)).heap.size := (Array.getElem?_eq_some_iff.1 d3).1
  have hw5 := b5.size
  have V3 := hide (hV.below b6)
  replace b6 := below_step b5 b6
  have T6 := hide (T4.out.below b6)
  have B6 := hide (below_step B4.out b6)
  have U2 := hide (U1.out.below b6)
  have Y2 := hide (V2.out.below b6)
  have r1' := hide ((b6.block w1.heap.size (by omega)).trans r1.out)
  have r2' := hide ((b6.block w3.heap.size (by omega)).trans r2.out)
  have s1 := hide c3
  have s2 := hide d3
  clear b5 b6 c3 d3 hV V2 U1 r0 r1 r2 r3 T4 B4 T2 T0 y0 y1 y2 y3
  go_upto_region 8 with fail
  show Code.wp _ _ _ _ (boxes w5 (.slice ao3 N cap3) (.int .i64 0) (.int .i64 0))
  generalize boxes w5 (.slice ao3 N cap3) (.int .i64 0) (.int .i64 0) = W6 at *
  have b7 := below_box W6 (.cells #[.slice none 0 0] 25)
  have x7 := hide (heap_alloc_new W6 (.cells #[.slice none 0 0] 25))
  have p7 := hide ((b7.block w1.heap.size (by omega)).trans r1'.out)
  have b7 := hide b7
  go_upto_region 9 with fail
  show Code.wp _ _ _ _ (W6.alloc (.cells #[.slice none 0 0] 25))
  have h7 : (W6.alloc (.cells #[.slice none 0 0] 25)).heap.size = W6.heap.size + 1 := by simp
  generalize W6.alloc (.cells #[.slice none 0 0] 25) = W7 at *
  obtain ⟨c, hc⟩ : ∃ c, W6.heap.size = c := ⟨_, rfl⟩
  rw [hc] at x7 h7
  have k0 : W7.cell? ⟨c, 0, none⟩ = some (.slice none 0 0) := by simp [World.cell?, x7.out]
  have k1 : W7.cell? ⟨w1.heap.size, 0, none⟩ = some (.slice ao1 xs.length cap1) := by simp [World.cell?, p7.out]
  obtain ⟨i0, hi0, hz0, hz1, hz2⟩ := info_parts Tryd.info34
  rw [hc]
  rcases U2.out.news with ⟨rfl, g1, rfl, rfl⟩ | ⟨g, cs1, rfl, g1, hl1, hc1, ho1, hF1⟩
  · have f7 : W7.frozen? ⟨c, 0, none⟩ = false := by simp [World.frozen?, x7.out]
    go_upto_region 10 with (at_builtin; refine wpList_append_own_none rfl (.tmp 60) (.tmp 62) 23 rfl (c + 1) 34 i0 5 Tryd.underlying23 hi0 _ 0 [] rfl (World.ownsRow_nil _ _ _ _) rfl ?_)
    clear k0 k1 f7
    have own8 : W7.ownsRow (c + 1) 34 5 (.slice none 0 0) 0 [] := World.ownsRow_nil _ _ _ _
    have Bel8 := b7
    have x8 := x7
    have Bel9 := hide (Bel8.out.setCell (p := ⟨c, 0, none⟩) (by rw [hc]; exact Nat.le_refl _) (.slice none 0 0))
    have own9 := hide (own_setCell (p := ⟨c, 0, none⟩) own8 (fun e => by have : c + 1 ≤ c := (own8.lt _ e).1; omega) (.slice none 0 0))
    have x9 : Hid ((W7.setCell ⟨c, 0, none⟩ (.slice none 0 0)).heap[c]? = some (.cells #[.slice none 0 0] 25 (0, 0))) := hide (heap_setCell_same W7 c 0 _ 25 (.slice none 0 0) x8.out)
    have h9 : (W7.setCell ⟨c, 0, none⟩ (.slice none 0 0)).heap.size = W7.heap.size := by simp [World.setCell]
    show Code.wp _ _ _ _ (W7.setCell ⟨c, 0, none⟩ (.slice none 0 0))
    clear own8
    generalize W7.setCell ⟨c, 0, none⟩ (.slice none 0 0) = W9 at *
    have k2 : W9.cell? ⟨c, 0, none⟩ = some (.slice none 0 0) := by simp [World.cell?, x9.out]
    have k3 : W9.cell? ⟨w3.heap.size, 0, none⟩ = some (.slice ao2 ys.length cap2) := by
      have := (Bel9.out.block w3.heap.size (by omega)).trans r2'.out
      simp [World.cell?, this]
    rcases Y2.out.news with ⟨rfl, g3, rfl, rfl⟩ | ⟨g2, cs2, rfl, g3, hl2, hc2, ho2, hF2⟩
    · obtain rfl : N = 0 := by have := hN.out; simpa using this.symm
      have f9 : W9.frozen? ⟨c, 0, none⟩ = false := by simp [World.frozen?, x9.out]
      go_upto_region 11 with (at_builtin; refine wpList_append_own_none rfl (.tmp 66) (.tmp 68) 23 rfl (c + 1) 34 i0 5 Tryd.underlying23 hi0 _ _ _ rfl own9.out rfl ?_)
      have own10 := own9
      have Bel10 := Bel9
      have x10 := x9
      clear f9
      have Bel11 := hide (Bel10.out.setCell (p := ⟨c, 0, none⟩) (by rw [hc]; exact Nat.le_refl _) (.slice none 0 0))
      have own11 := own_setCell (p := ⟨c, 0, none⟩) own10.out (fun e => by have : c + 1 ≤ c := (own10.out.lt _ e).1; omega) (.slice none 0 0)
      have x11 : Hid ((W9.setCell ⟨c, 0, none⟩ (.slice none 0 0)).heap[c]? = some (.cells #[.slice none 0 0] 25 (0, 0))) := hide (heap_setCell_same W9 c 0 _ 25 (.slice none 0 0) x10.out)
      have eN : (([] : List Fun) ++ ([] : List Fun)).length = 0 := by simp
      have PV : Hid (ProgVal 0 (([] : List Fun) ++ ([] : List Fun)) (.slice none 0 0) (W9.setCell ⟨c, 0, none⟩ (.slice none 0 0))) := hide (by
        refine ⟨([] : List Value), ?_, ?_⟩
        · rw [eN]; exact own_base own11 (Nat.zero_le _)
        · exact (show FRow 0 _ [] [] from rfl))
      have V11 := hide ((V3.out.below Bel11.out).base (Nat.zero_le _))
      have o1 := hide ((Bel11.out.block (w5.heap.size + 1) (by omega)).trans s2.out)
      have o2 := hide ((Bel11.out.block w5.heap.size (by omega)).trans s1.out)
      replace eN := hide eN
      clear own11 k2 k3
      show Code.wp _ _ _ _ (W9.setCell ⟨c, 0, none⟩ (.slice none 0 0))
      generalize W9.setCell ⟨c, 0, none⟩ (.slice none 0 0) = W11 at *
      have j0 : W11.cell? ⟨w5.heap.size + 1, 0, none⟩ = some (.int .i64 0) := by simp [World.cell?, o1.out]
      have j1 : W11.cell? ⟨w5.heap.size, 0, none⟩ = some (.slice ao3 0 cap3) := by simp [World.cell?, o2.out]
      have j2 : W11.cell? ⟨c, 0, none⟩ = some (.slice none 0 0) := by simp [World.cell?, x11.out]
      go_wp2_with fail
      have SP : Calls Tryd.prog 12 #[.agg #[.slice ao3 0 cap3], .agg #[.slice none 0 0]] W11 fun e w' => e = .returned (.bool true) ∧ Below W11.heap.size W11 w' := by
        have V := V11.out
        have P := PV.out
        have e := eN.out
        have hle : (([] : List Fun) ++ ([] : List Fun)).length ≤ 64 := by omega
        exact same_at (([] : List Fun) ++ ([] : List Fun)) 0 e (fun i y h => like_join _ _ _ i y h) ao3 none cap3 0 W11 hle V P
      refine SP.mono ?_; rintro e w12 ⟨rfl, b12⟩
      have B12 := hide (below_step (below_step B6.out Bel11.out) b12)
      go_wp2_with fail
      refine (works_any _ ((T6.out.below Bel11.out).below b12) (by have := B12.out.size; omega)).mono ?_; rintro e w13 ⟨rfl, b13⟩
      go_wp2_with fail
      go_ret
      exact ⟨rfl, below_step B12.out b13⟩
    · have hc2' := fun (j : Nat) (u : Value) (h : cs2[j]? = some u) => (Bel9.out.cell (World.block_lt_of_cell? W6 _ (hc2 j u h))).trans (hc2 j u h)
      go_upto_region 11 with (at_builtin; refine wpList_append_own _ rfl (.tmp 66) (.tmp 68) 23 rfl (c + 1) 34 i0 _ 5 80 Tryd.underlying23 hi0 hz0 hz1 hz2 rfl (by decide) _ _ _ rfl own9.out ⟨g2, 0, none⟩ ys.length cap2 cs2 rfl hl2 hc2' ho2 (by unfold maxLen; omega) (by omega) (by omega) ?_; intro v10 w10 own10 grow10 _; rw [show 0 + ys.length = N from hN.out] at own10; obtain ⟨ao10, cap10, rfl⟩ := own_len own10; have x10 := (grow10.block c (by omega) (fun e => by have := (own9.out.lt c e.symm).1; omega)).trans x9.out; have z10 : w10.cell? ⟨c, 0, none⟩ = some (.slice none 0 0) := (by simp [World.cell?, x10]); have f10 : w10.frozen? ⟨c, 0, none⟩ = false := (by simp [World.frozen?, x10]); replace x10 := hide x10; replace own10 := hide own10; replace grow10 := hide grow10)
      replace grow10 := grow10.out
      clear z10 f10
      have Bel10 := hide (Bel9.out.grown grow10 (by omega) (fun k e => by have := (own9.out.lt k e).1; omega))
      clear grow10 hc2 hc2' ho2
      have Bel11 := hide (Bel10.out.setCell (p := ⟨c, 0, none⟩) (by rw [hc]; exact Nat.le_refl _) (.slice ao10 N cap10))
      have own11 := own_setCell (p := ⟨c, 0, none⟩) own10.out (fun e => by have : c + 1 ≤ c := (own10.out.lt _ e).1; omega) (.slice ao10 N cap10)
      have x11 : Hid ((w10.setCell ⟨c, 0, none⟩ (.slice ao10 N cap10)).heap[c]? = some (.cells #[.slice ao10 N cap10] 25 (0, 0))) := hide (heap_setCell_same w10 c 0 _ 25 (.slice ao10 N cap10) x10.out)
      have eN : (([] : List Fun) ++ ys).length = N := by have := hN.out; simpa using this
      have PV : Hid (ProgVal 0 (([] : List Fun) ++ ys) (.slice ao10 N cap10) (w10.setCell ⟨c, 0, none⟩ (.slice ao10 N cap10))) := hide (by
        refine ⟨(([] : List Value) ++ cs2), ?_, ?_⟩
        · rw [eN]; exact own_base own11 (Nat.zero_le _)
        · exact (FRow.stay (stay_base (Nat.zero_le _)) _ _ (FRow.stay (stay_below Bel11.out) _ _ hF2)))
      have V11 := hide ((V3.out.below Bel11.out).base (Nat.zero_le _))
      have o1 := hide ((Bel11.out.block (w5.heap.size + 1) (by omega)).trans s2.out)
      have o2 := hide ((Bel11.out.block w5.heap.size (by omega)).trans s1.out)
      replace eN := hide eN
      clear own11 k2 k3
      show Code.wp _ _ _ _ (w10.setCell ⟨c, 0, none⟩ (.slice ao10 N cap10))
      generalize w10.setCell ⟨c, 0, none⟩ (.slice ao10 N cap10) = W11 at *
      have j0 : W11.cell? ⟨w5.heap.size + 1, 0, none⟩ = some (.int .i64 0) := by simp [World.cell?, o1.out]
      have j1 : W11.cell? ⟨w5.heap.size, 0, none⟩ = some (.slice ao3 N cap3) := by simp [World.cell?, o2.out]
      have j2 : W11.cell? ⟨c, 0, none⟩ = some (.slice ao10 N cap10) := by simp [World.cell?, x11.out]
      go_wp2_with fail
      have SP : Calls Tryd.prog 12 #[.agg #[.slice ao3 N cap3], .agg #[.slice ao10 N cap10]] W11 fun e w' => e = .returned (.bool true) ∧ Below W11.heap.size W11 w' := by
        have V := V11.out
        have P := PV.out
        have e := eN.out
        have hle : (([] : List Fun) ++ ys).length ≤ 64 := by omega
        exact same_at (([] : List Fun) ++ ys) N e (fun i y h => like_join _ _ _ i y h) ao3 ao10 cap3 cap10 W11 hle V P
      refine SP.mono ?_; rintro e w12 ⟨rfl, b12⟩
      have B12 := hide (below_step (below_step B6.out Bel11.out) b12)
      go_wp2_with fail
      refine (works_any _ ((T6.out.below Bel11.out).below b12) (by have := B12.out.size; omega)).mono ?_; rintro e w13 ⟨rfl, b13⟩
      go_wp2_with fail
      go_ret
      exact ⟨rfl, below_step B12.out b13⟩
  · have hc1' := fun (j : Nat) (u : Value) (h : cs1[j]? = some u) => (b7.out.cell (World.block_lt_of_cell? W6 _ (hc1 j u h))).trans (hc1 j u h)
    go_upto_region 10 with (at_builtin; refine wpList_append_own _ rfl (.tmp 60) (.tmp 62) 23 rfl (c + 1) 34 i0 _ 5 80 Tryd.underlying23 hi0 hz0 hz1 hz2 rfl (by decide) _ 0 [] rfl (World.ownsRow_nil _ _ _ _) ⟨g, 0, none⟩ xs.length cap1 cs1 rfl hl1 hc1' ho1 (by unfold maxLen; omega) (by omega) (by omega) ?_; intro v8 w8 own8 grow8 _; rw [Nat.zero_add, List.nil_append] at own8; obtain ⟨ao8, cap8, rfl⟩ := own_len own8; have x8 := (grow8.block c (by omega) (fun e => by cases e)).trans x7.out; have z8 : w8.cell? ⟨c, 0, none⟩ = some (.slice none 0 0) := (by simp [World.cell?, x8]); have f8 : w8.frozen? ⟨c, 0, none⟩ = false := (by simp [World.frozen?, x8]); replace x8 := hide x8; replace own8 := hide own8; replace grow8 := hide grow8)
    replace own8 := own8.out
    replace grow8 := grow8.out
    clear k0 k1 z8 f8
    have Bel8 := hide (b7.out.grown grow8 (by omega) (fun k e => by cases e))
    have h8 : c + 1 ≤ w8.heap.size := by have := grow8.size; omega
    clear grow8 hc1 hc1' ho1
    have Bel9 := hide (Bel8.out.setCell (p := ⟨c, 0, none⟩) (by rw [hc]; exact Nat.le_refl _) (.slice ao8 xs.length cap8))
    have own9 := hide (own_setCell (p := ⟨c, 0, none⟩) own8 (fun e => by have : c + 1 ≤ c := (own8.lt _ e).1; omega) (.slice ao8 xs.length cap8))
    have x9 : Hid ((w8.setCell ⟨c, 0, none⟩ (.slice ao8 xs.length cap8)).heap[c]? = some (.cells #[.slice ao8 xs.length cap8] 25 (0, 0))) := hide (heap_setCell_same w8 c 0 _ 25 (.slice ao8 xs.length cap8) x8.out)
    have h9 : (w8.setCell ⟨c, 0, none⟩ (.slice ao8 xs.length cap8)).heap.size = w8.heap.size := by simp [World.setCell]
    show Code.wp _ _ _ _ (w8.setCell ⟨c, 0, none⟩ (.slice ao8 xs.length cap8))
    clear own8
    generalize w8.setCell ⟨c, 0, none⟩ (.slice ao8 xs.length cap8) = W9 at *
    have k2 : W9.cell? ⟨c, 0, none⟩ = some (.slice ao8 xs.length cap8) := by simp [World.cell?, x9.out]
    have k3 : W9.cell? ⟨w3.heap.size, 0, none⟩ = some (.slice ao2 ys.length cap2) := by
      have := (Bel9.out.block w3.heap.size (by omega)).trans r2'.out
      simp [World.cell?, this]
    rcases Y2.out.news with ⟨rfl, g3, rfl, rfl⟩ | ⟨g2, cs2, rfl, g3, hl2, hc2, ho2, hF2⟩
    · obtain rfl : N = xs.length := by have := hN.out; simpa using this.symm
      have f9 : W9.frozen? ⟨c, 0, none⟩ = false := by simp [World.frozen?, x9.out]
      go_upto_region 11 with (at_builtin; refine wpList_append_own_none rfl (.tmp 66) (.tmp 68) 23 rfl (c + 1) 34 i0 5 Tryd.underlying23 hi0 _ _ _ rfl own9.out rfl ?_)
      have own10 := own9
      have Bel10 := Bel9
      have x10 := x9
      clear f9
      have Bel11 := hide (Bel10.out.setCell (p := ⟨c, 0, none⟩) (by rw [hc]; exact Nat.le_refl _) (.slice ao8 xs.length cap8))
      have own11 := own_setCell (p := ⟨c, 0, none⟩) own10.out (fun e => by have : c + 1 ≤ c := (own10.out.lt _ e).1; omega) (.slice ao8 xs.length cap8)
      have x11 : Hid ((W9.setCell ⟨c, 0, none⟩ (.slice ao8 xs.length cap8)).heap[c]? = some (.cells #[.slice ao8 xs.length cap8] 25 (0, 0))) := hide (heap_setCell_same W9 c 0 _ 25 (.slice ao8 xs.length cap8) x10.out)
      have eN : (xs ++ ([] : List Fun)).length = xs.length := by simp
      have PV : Hid (ProgVal 0 (xs ++ ([] : List Fun)) (.slice ao8 xs.length cap8) (W9.setCell ⟨c, 0, none⟩ (.slice ao8 xs.length cap8))) := hide (by
        refine ⟨cs1, ?_, ?_⟩
        · rw [eN]; exact own_base own11 (Nat.zero_le _)
        · exact (by rw [List.append_nil]; exact (FRow.stay (stay_base (Nat.zero_le _)) _ _ (FRow.stay (stay_below Bel11.out) _ _ hF1))))
      have V11 := hide ((V3.out.below Bel11.out).base (Nat.zero_le _))
      have o1 := hide ((Bel11.out.block (w5.heap.size + 1) (by omega)).trans s2.out)
      have o2 := hide ((Bel11.out.block w5.heap.size (by omega)).trans s1.out)
      replace eN := hide eN
      clear own11 k2 k3
      show Code.wp _ _ _ _ (W9.setCell ⟨c, 0, none⟩ (.slice ao8 xs.length cap8))
      generalize W9.setCell ⟨c, 0, none⟩ (.slice ao8 xs.length cap8) = W11 at *
      have j0 : W11.cell? ⟨w5.heap.size + 1, 0, none⟩ = some (.int .i64 0) := by simp [World.cell?, o1.out]
      have j1 : W11.cell? ⟨w5.heap.size, 0, none⟩ = some (.slice ao3 xs.length cap3) := by simp [World.cell?, o2.out]
      have j2 : W11.cell? ⟨c, 0, none⟩ = some (.slice ao8 xs.length cap8) := by simp [World.cell?, x11.out]
      go_wp2_with fail
      have SP : Calls Tryd.prog 12 #[.agg #[.slice ao3 xs.length cap3], .agg #[.slice ao8 xs.length cap8]] W11 fun e w' => e = .returned (.bool true) ∧ Below W11.heap.size W11 w' := by
        have V := V11.out
        have P := PV.out
        have e := eN.out
        have hle : (xs ++ ([] : List Fun)).length ≤ 64 := by omega
        exact same_at (xs ++ ([] : List Fun)) xs.length e (fun i y h => like_join _ _ _ i y h) ao3 ao8 cap3 cap8 W11 hle V P
      refine SP.mono ?_; rintro e w12 ⟨rfl, b12⟩
      have B12 := hide (below_step (below_step B6.out Bel11.out) b12)
      go_wp2_with fail
      refine (works_any _ ((T6.out.below Bel11.out).below b12) (by have := B12.out.size; omega)).mono ?_; rintro e w13 ⟨rfl, b13⟩
      go_wp2_with fail
      go_ret
      exact ⟨rfl, below_step B12.out b13⟩
    · have hc2' := fun (j : Nat) (u : Value) (h : cs2[j]? = some u) => (Bel9.out.cell (World.block_lt_of_cell? W6 _ (hc2 j u h))).trans (hc2 j u h)
      go_upto_region 11 with (at_builtin; refine wpList_append_own _ rfl (.tmp 66) (.tmp 68) 23 rfl (c + 1) 34 i0 _ 5 80 Tryd.underlying23 hi0 hz0 hz1 hz2 rfl (by decide) _ _ _ rfl own9.out ⟨g2, 0, none⟩ ys.length cap2 cs2 rfl hl2 hc2' ho2 (by unfold maxLen; omega) (by omega) (by omega) ?_; intro v10 w10 own10 grow10 _; rw [show xs.length + ys.length = N from hN.out] at own10; obtain ⟨ao10, cap10, rfl⟩ := own_len own10; have x10 := (grow10.block c (by omega) (fun e => by have := (own9.out.lt c e.symm).1; omega)).trans x9.out; have z10 : w10.cell? ⟨c, 0, none⟩ = some (.slice ao8 xs.length cap8) := (by simp [World.cell?, x10]); have f10 : w10.frozen? ⟨c, 0, none⟩ = false := (by simp [World.frozen?, x10]); replace x10 := hide x10; replace own10 := hide own10; replace grow10 := hide grow10)
      replace grow10 := grow10.out
      clear z10 f10
      have Bel10 := hide (Bel9.out.grown grow10 (by omega) (fun k e => by have := (own9.out.lt k e).1; omega))
      clear grow10 hc2 hc2' ho2
      have Bel11 := hide (Bel10.out.setCell (p := ⟨c, 0, none⟩) (by rw [hc]; exact Nat.le_refl _) (.slice ao10 N cap10))
      have own11 := own_setCell (p := ⟨c, 0, none⟩) own10.out (fun e => by have : c + 1 ≤ c := (own10.out.lt _ e).1; omega) (.slice ao10 N cap10)
      have x11 : Hid ((w10.setCell ⟨c, 0, none⟩ (.slice ao10 N cap10)).heap[c]? = some (.cells #[.slice ao10 N cap10] 25 (0, 0))) := hide (heap_setCell_same w10 c 0 _ 25 (.slice ao10 N cap10) x10.out)
      have eN : (xs ++ ys).length = N := by have := hN.out; simpa using this
      have PV : Hid (ProgVal 0 (xs ++ ys) (.slice ao10 N cap10) (w10.setCell ⟨c, 0, none⟩ (.slice ao10 N cap10))) := hide (by
        refine ⟨(cs1 ++ cs2), ?_, ?_⟩
        · rw [eN]; exact own_base own11 (Nat.zero_le _)
        · exact (FRow.append _ _ _ _ (FRow.stay (stay_base (Nat.zero_le _)) _ _ (FRow.stay (stay_below Bel11.out) _ _ hF1)) (FRow.stay (stay_base (Nat.zero_le _)) _ _ (FRow.stay (stay_below Bel11.out) _ _ hF2))))
      have V11 := hide ((V3.out.below Bel11.out).base (Nat.zero_le _))
      have o1 := hide ((Bel11.out.block (w5.heap.size + 1) (by omega)).trans s2.out)
      have o2 := hide ((Bel11.out.block w5.heap.size (by omega)).trans s1.out)
      replace eN := hide eN
      clear own11 k2 k3
      show Code.wp _ _ _ _ (w10.setCell ⟨c, 0, none⟩ (.slice ao10 N cap10))
      generalize w10.setCell ⟨c, 0, none⟩ (.slice ao10 N cap10) = W11 at *
      have j0 : W11.cell? ⟨w5.heap.size + 1, 0, none⟩ = some (.int .i64 0) := by simp [World.cell?, o1.out]
      have j1 : W11.cell? ⟨w5.heap.size, 0, none⟩ = some (.slice ao3 N cap3) := by simp [World.cell?, o2.out]
      have j2 : W11.cell? ⟨c, 0, none⟩ = some (.slice ao10 N cap10) := by simp [World.cell?, x11.out]
      go_wp2_with fail
      have SP : Calls Tryd.prog 12 #[.agg #[.slice ao3 N cap3], .agg #[.slice ao10 N cap10]] W11 fun e w' => e = .returned (.bool true) ∧ Below W11.heap.size W11 w' := by
        have V := V11.out
        have P := PV.out
        have e := eN.out
        have hle : (xs ++ ys).length ≤ 64 := by omega
        exact same_at (xs ++ ys) N e (fun i y h => like_join _ _ _ i y h) ao3 ao10 cap3 cap10 W11 hle V P
      refine SP.mono ?_; rintro e w12 ⟨rfl, b12⟩
      have B12 := hide (below_step (below_step B6.out Bel11.out) b12)
      go_wp2_with fail
      refine (works_any _ ((T6.out.below Bel11.out).below b12) (by have := B12.out.size; omega)).mono ?_; rintro e w13 ⟨rfl, b13⟩
      go_wp2_with fail
      go_ret
      exact ⟨rfl, below_step B12.out b13⟩

theorem lawJoins (s t : ByteArray) (w : World) (ht : Tabs w) (hw : 2 ≤ w.heap.size) : Calls Tryd.prog 5 #[.string s, .string t] w fun e w' => e = .returned (.bool true) ∧ Below w.heap.size w w' := by
  by_cases hs : 1500 < s.size
  · exact joins_long s t w hs ht hw
  · by_cases hs2 : 1500 < t.size
    · exact joins_long2 s t w hs hs2 ht hw
    · cases h1 : textG s with
      | error er => exact joins_bad s t er h1 w hs hs2 ht hw
      | ok xs =>
        cases h2 : textG t with
        | error er => exact joins_bad2 s t xs er h1 h2 w hs hs2 ht hw
        | ok ys =>
          by_cases hm : 32 < xs.length + ys.length
          · exact joins_many s t xs ys h1 h2 hm w hs hs2 ht hw
          · exact joins_main s t xs ys h1 h2 hm w hs hs2 ht hw
end Go.Proofs.YtkkkgennkhdfhaaDoor
