/- The small check of layer 7 works. -/
import Derived.Test.YtahhbckccdigoaaGreatDoorMbBG
set_option maxHeartbeats 8000000
set_option maxRecDepth 20000
namespace Go.Proofs.YtahhbckccdigoaaGreatDoor
open Go Go.RowKit
open G (Tok Er Ins Fun peek0 peek1 atOf)
abbrev c14 (g : Nat) : List Value := [.int .i64 14, .int .i64 (-1), .int .i64 2, .int .i64 0, .slice (some ⟨g, 0, none⟩) 2 2, .slice none 0 0, .string ⟨#[]⟩, .int .i64 0]
theorem ins14 {w : World} {g : Nat} (h : L5.Box w g [.int .i64 3, .int .i64 4]) : InsV w x14 (.agg (c14 g).toArray) := by
  refine ⟨some ⟨g, 0, none⟩, none, 2, 0, rfl, .inr ⟨g, 0, rfl, h.1, fun i n hi => ?_⟩, .inl rfl, Nat.le_refl _, by unfold maxLen; omega, Nat.le_refl _, Nat.zero_le _⟩
  rw [Nat.zero_add]
  refine h.2 i _ ?_
  match i, hi with
  | 0, hi => cases hi; rfl
  | 1, hi => cases hi; rfl
theorem ins8 (w : World) (id : Int) : InsV w (8, id, 0, 0, [], [], [], 0) (.agg #[.int .i64 8, .int .i64 id, .int .i64 0, .int .i64 0, .slice none 0 0, .slice none 0 0, .string ⟨#[]⟩, .int .i64 0]) :=
  ⟨none, none, 0, 0, rfl, .inl rfl, .inl rfl, Nat.le_refl _, Nat.zero_le _, Nat.le_refl _, Nat.zero_le _⟩
theorem works_any (w : World) (ht : Tb w) : Calls Tryz.prog 9 #[] w fun e w' => e = .returned (.bool true) /\ Below w.heap.size w w' := by
  go_enter Tryz.func9, Tryz.ntmps9
  go_wp2_with fail
  refine (small_any _).mono ?_; rintro e w0 ⟨rfl, hw0⟩
  rw [hw0]
  clear hw0
  go_wp2_with fail
  refine (small_read _).mono ?_; rintro e w1 ⟨v, rfl, P1, b1⟩
  obtain ⟨b2, d1, d2⟩ := boxes_ok w1 v (.int .i64 0) (.int .i64 0)
  have B2 := hide (below_step b1 b2)
  have T2 := hide ((ht.below b1).below b2)
  have P2 := hide (P1.below b2)
  have D1 := hide d1
  obtain ⟨ao, c, rfl, hc1, hc2, _⟩ := P1
  have hz2 : w1.heap.size < (boxes w1 (.slice ao [fMain, fF].length c) (.int .i64 0) (.int .i64 0)).heap.size := (Array.getElem?_eq_some_iff.1 d1).1
  clear b1 b2 d1 d2 ht
  go_upto_region 2 with fail
  show Code.wp _ _ _ _ (boxes w1 (.slice ao [fMain, fF].length c) (.int .i64 0) (.int .i64 0))
  generalize boxes w1 (.slice ao [fMain, fF].length c) (.int .i64 0) (.int .i64 0) = W2 at *
  have b3 := below_box W2 (.cells #[.int .i64 3, .int .i64 4] 3)
  have b4 := below_box (W2.alloc (.cells #[.int .i64 3, .int .i64 4] 3)) (.cells (c14 W2.heap.size).toArray 39)
  have hz3 : (W2.alloc (.cells #[.int .i64 3, .int .i64 4] 3)).heap.size = W2.heap.size + 1 := by simp
  have X3 : Hid (L5.Box ((W2.alloc (.cells #[.int .i64 3, .int .i64 4] 3)).alloc (.cells (c14 W2.heap.size).toArray 39)) W2.heap.size [.int .i64 3, .int .i64 4]) := hide ⟨by simp; omega, fun i u hu => by
    refine (b4.cell (p := ⟨W2.heap.size, i, none⟩) (by show W2.heap.size < _; omega)).trans ?_
    have := World.news_of_block (heap_alloc_new W2 (.cells #[.int .i64 3, .int .i64 4] 3)) i u hu
    rw [Addr.add_lit, Nat.zero_add] at this
    exact this⟩
  have X4 : Hid (L5.Box ((W2.alloc (.cells #[.int .i64 3, .int .i64 4] 3)).alloc (.cells (c14 W2.heap.size).toArray 39)) (W2.heap.size + 1) (c14 W2.heap.size)) := hide ⟨by simp, fun i u hu => by
    have := World.news_of_block (heap_alloc_new (W2.alloc (.cells #[.int .i64 3, .int .i64 4] 3)) (.cells (c14 W2.heap.size).toArray 39)) i u hu
    rw [Addr.add_lit, Nat.zero_add, hz3] at this
    exact this⟩
  have X1 : Hid (L5.Box ((W2.alloc (.cells #[.int .i64 3, .int .i64 4] 3)).alloc (.cells (c14 W2.heap.size).toArray 39)) w1.heap.size [.slice ao 2 c]) := hide ⟨by simp; omega, fun i u hu => by
    refine ((below_step b3 b4).cell (p := ⟨w1.heap.size, i, none⟩) hz2).trans ?_
    simp only [World.cell?, D1.out]
    simpa using hu⟩
  have B4 := hide (below_step B2.out (below_step b3 b4))
  have T4 := hide (T2.out.below (below_step b3 b4))
  have P4 : Hid (ProgR _ [fMain, fF] (.slice ao 2 c)) := hide (P2.out.below (below_step b3 b4))
  clear b3 b4 hz3 B2 T2 P2 D1
  go_upto_region 3 with fail
  show Code.wp _ _ _ _ ((W2.alloc (.cells #[.int .i64 3, .int .i64 4] 3)).alloc (.cells (c14 W2.heap.size).toArray 39))
  generalize (W2.alloc (.cells #[.int .i64 3, .int .i64 4] 3)).alloc (.cells (c14 W2.heap.size).toArray 39) = W4 at *
  generalize W2.heap.size = g at *
  generalize w1.heap.size = g1 at *
  obtain ⟨_, _, hv, _, _, hq⟩ := P4.out
  cases hv
  obtain ⟨g0, o0, rfl, hf⟩ : ∃ g0 o0, ao = some ⟨g0, o0, none⟩ /\ ∀ i x, [fMain, fF][i]? = some x -> FunR W4 x g0 (o0 + i * 5) := by
    rcases hq with hq | hq
    . cases hq
    . exact hq
  obtain ⟨hg0, vp, vb, hfc, hfp, hfb⟩ := hf 1 fF rfl
  have FV : Hid (FunV W4 fF (.agg #[.string (bs fF.1), vp, .int .i64 fF.2.2.1, vb, .int .i64 fF.2.2.2.2])) := hide ⟨vp, vb, rfl, hfp, hfb⟩
  have m0 := fun x => ((L5.grewTo_below W4 x).cell (p := ⟨g0, o0 + 1 * 5 + 0, none⟩) hg0).trans (hfc 0 _ rfl)
  have m1 := fun x => ((L5.grewTo_below W4 x).cell (p := ⟨g0, o0 + 1 * 5 + 1, none⟩) hg0).trans (hfc 1 _ rfl)
  have m2 := fun x => ((L5.grewTo_below W4 x).cell (p := ⟨g0, o0 + 1 * 5 + 2, none⟩) hg0).trans (hfc 2 _ rfl)
  have m3 := fun x => ((L5.grewTo_below W4 x).cell (p := ⟨g0, o0 + 1 * 5 + 3, none⟩) hg0).trans (hfc 3 _ rfl)
  have m4 := fun x => ((L5.grewTo_below W4 x).cell (p := ⟨g0, o0 + 1 * 5 + 4, none⟩) hg0).trans (hfc 4 _ rfl)
  have y0 := fun x => (L5.grew_box X4.out x).2 0 _ rfl
  have y1 := fun x => (L5.grew_box X4.out x).2 1 _ rfl
  have y2 := fun x => (L5.grew_box X4.out x).2 2 _ rfl
  have y3 := fun x => (L5.grew_box X4.out x).2 3 _ rfl
  have y4 := fun x => (L5.grew_box X4.out x).2 4 _ rfl
  have y5 := fun x => (L5.grew_box X4.out x).2 5 _ rfl
  have y6 := fun x => (L5.grew_box X4.out x).2 6 _ rfl
  have y7 := fun x => (L5.grew_box X4.out x).2 7 _ rfl
  have yy := fun x => (L5.grew_box X1.out x).2 0 _ rfl
  have hi14 := hide (fun x => ins14 (L5.grew_box X3.out x))
  have hTT := hide (fun x => T4.out.below (L5.grewTo_below W4 x))
  have hPP := hide (fun x => P4.out.below (L5.grewTo_below W4 x))
  have hFF := hide (fun x => FV.out.below (L5.grewTo_below W4 x))
  clear X1 X3 X4 T4 P4 FV hf hfc hfp hfb hq
  simp only [Nat.one_mul, Nat.add_zero] at m0 m1 m2 m3 m4
  have t12 : ((bs (insT x14)).toList == [115, 116, 111, 114, 101, 46, 112, 32, 37, 51, 32, 50, 32, 37, 52]) = true := by rw [x14_text]; decide +kernel
  have k0 := x14_check
  have k1 := x8a_check
  have k2 := x8b_check
  have kw := small_whole
  have hfl : (30 : Int) < ((bs (funT fF)).size : Int) := by rw [bs_size]; have := fF_long; omega
  have hfl2 : decide ((30 : Int) < ((bs (funT fF)).size : Int)) = true := by simpa using hfl
  have hi : I64 2 := by unfold I64; omega
  have hi0 : I64 0 := by unfold I64; omega
  go_wp2_with fail
  refine L5.region_grew (by kernel_rfl) (by kernel_rfl) ?_
  repeat (go_big_quiet_step ((first
    | (go_at_call 12; exact L5.calls_grew (sinstr_any x14 _ _ (hi14.out _) x14_fin (hTT.out _)))
    | (go_at_call 16; exact L5.calls_grew (check_any x14 _ _ (hi14.out _) hi (hTT.out _) (Nat.zero_le _)))
    | (go_at_call 16; exact L5.calls_grew (check_any x8a _ _ (ins8 _ 0) hi0 (hTT.out _) (Nat.zero_le _)))
    | (go_at_call 16; exact L5.calls_grew (check_any x8b _ _ (ins8 _ (-1)) hi0 (hTT.out _) (Nat.zero_le _)))
    | (go_at_call 18; exact L5.calls_grew (whole_try [fMain, fF] _ c _ (hPP.out _) (hTT.out _) small_okf))
    | (go_at_call 14; exact L5.calls_grew (prog_text [fMain, fF] _ c _ (hPP.out _) (hTT.out _) small_fin))
    | (go_at_call 15; exact L5.calls_grew (rprog_text [fMain, fF] _ c _ (hPP.out _) small_fin))
    | (go_at_call 10; exact L5.calls_grew (func_any fF _ _ (hFF.out _) (small_fin.2 fF (by simp)).1 (hTT.out _))))))
  refine wpQuiet_nil ?_
  rintro _ ⟨x, rfl⟩
  go_wp2_with fail
  go_ret
  exact ⟨rfl, below_step B4.out (L5.grewTo_below _ x)⟩
end Go.Proofs.YtahhbckccdigoaaGreatDoor
