/- Layer 10: what is asked of the program's functions; the small check answers true, where these do. -/
import Derived.Test.YtmiplohoclckcaaGreatLtBD
namespace Go.Proofs.YtmiplohoclckcaaGreat
open Go Go.RowKit
open G (Tok Er Ins Fun)
open Mix (Up)
/-- What is asked of the program's functions: a property of the globals that stays, and what each function answers. -/
def Lps (G : World → Prop) : Prop :=
  (∀ {w w' : World}, G w → Below w.heap.size w w' → G w') ∧
  (∀ (f : Fun) (v : Value) (w : World), G w → FunV w f v → Lgt9 f → Calls Tryz.prog 8 #[v] w fun e w' => ∃ u, e = .returned u ∧ LoopsV w' (loopsF f) u ∧ Below w.heap.size w w') ∧
  (∀ (f : Fun) (k : Int) (v : Value) (w : World), G w → LoopsV w (loopsF f) v → Lgt9 f → R64 k → Calls Tryz.prog 11 #[v, .int .i64 k] w fun e w' => e = .returned (.int .i64 (depthL (loopsF f) k (loopsF f).length)) ∧ Below w.heap.size w w') ∧
  (∀ (f : Fun) (x : Lp) (v xv : Value) (w : World), G w → FunV w f v → LoopV w x xv → x ∈ loopsF f → Lgt9 f → Calls Tryz.prog 16 #[v, xv] w fun e w' => e = .returned (.int .i64 (entryF f x)) ∧ Below w.heap.size w w') ∧
  (∀ (f : Fun) (v : Value) (w : World), G w → LoopsV w (loopsF f) v → Lgt9 f → Calls Tryz.prog 14 #[v] w fun e w' => ∃ u, e = .returned u ∧ IntsV w' (innerF (loopsF f)) u ∧ Below w.heap.size w w')
theorem Lps.gb {G : World → Prop} (D : Lps G) : ∀ {w w' : World}, G w → Below w.heap.size w w' → G w' := D.1
theorem Lps.of {G : World → Prop} (D : Lps G) : ∀ (f : Fun) (v : Value) (w : World), G w → FunV w f v → Lgt9 f → Calls Tryz.prog 8 #[v] w fun e w' => ∃ u, e = .returned u ∧ LoopsV w' (loopsF f) u ∧ Below w.heap.size w w' := D.2.1
theorem Lps.depth {G : World → Prop} (D : Lps G) : ∀ (f : Fun) (k : Int) (v : Value) (w : World), G w → LoopsV w (loopsF f) v → Lgt9 f → R64 k → Calls Tryz.prog 11 #[v, .int .i64 k] w fun e w' => e = .returned (.int .i64 (depthL (loopsF f) k (loopsF f).length)) ∧ Below w.heap.size w w' := D.2.2.1
theorem Lps.entry {G : World → Prop} (D : Lps G) : ∀ (f : Fun) (x : Lp) (v xv : Value) (w : World), G w → FunV w f v → LoopV w x xv → x ∈ loopsF f → Lgt9 f → Calls Tryz.prog 16 #[v, xv] w fun e w' => e = .returned (.int .i64 (entryF f x)) ∧ Below w.heap.size w w' := D.2.2.2.1
theorem Lps.inner {G : World → Prop} (D : Lps G) : ∀ (f : Fun) (v : Value) (w : World), G w → LoopsV w (loopsF f) v → Lgt9 f → Calls Tryz.prog 14 #[v] w fun e w' => ∃ u, e = .returned u ∧ IntsV w' (innerF (loopsF f)) u ∧ Below w.heap.size w w' := D.2.2.2.2
theorem lit_ints (w : World) (l : List Int) (h : l.length ≤ 100) : IntsV (w.alloc (.cells (ints l).toArray 3)) l (.slice (some ⟨w.heap.size, 0, none⟩) l.length l.length) := ⟨_, _, rfl, new_sl w l 3, Nat.le_refl _, by unfold maxLen; omega⟩
theorem lit_1_2_3_4 (w : World) : IntsV (w.alloc (.cells #[.int .i64 1, .int .i64 2, .int .i64 3, .int .i64 4] 3)) [1, 2, 3, 4] (.slice (some ⟨w.heap.size, 0, none⟩) 4 4) := lit_ints w [1, 2, 3, 4] (by decide)
theorem lit_4 (w : World) : IntsV (w.alloc (.cells #[.int .i64 4] 3)) [4] (.slice (some ⟨w.heap.size, 0, none⟩) 1 1) := lit_ints w [4] (by decide)
theorem lit_0 (w : World) : IntsV (w.alloc (.cells #[.int .i64 0] 3)) [0] (.slice (some ⟨w.heap.size, 0, none⟩) 1 1) := lit_ints w [0] (by decide)
theorem fork_loops : loopsF fFork = [((1 : Int), ([1, 2, 3, 4] : List Int), ([4] : List Int), (-1 : Int))] := by decide +kernel
theorem fork_entry : entryF fFork ((1 : Int), ([1, 2, 3, 4] : List Int), ([4] : List Int), (-1 : Int)) = 0 := by decide +kernel
theorem fork_inner : innerF [((1 : Int), ([1, 2, 3, 4] : List Int), ([4] : List Int), (-1 : Int))] = [0] := by decide +kernel
def wkUp (fv sv pv0 pv1 pv2 pv3 xb yb ag : Value) (t : Tmp) : Up := match t with
  | 13 | 19 | 27 | 35 | 42 | 48 | 55 => Up.eq sv
  | 14 | 15 | 20 | 28 | 36 | 49 => Up.eq pv0
  | 16 | 43 => Up.eq (.int .i64 1)
  | 21 => Up.eq pv1
  | 22 => Up.eq xb
  | 23 => Up.ints [1, 2, 3, 4]
  | 29 => Up.eq pv2
  | 30 => Up.eq yb
  | 31 => Up.ints [4]
  | 37 => Up.eq pv3
  | 38 => Up.eq (.int .i64 (-1))
  | 47 => Up.eq fv
  | 50 => Up.eq ag
  | 51 => Up.eq (.int .i64 0)
  | 56 | 57 => Up.ints [0]
  | 0 | 17 | 18 | 24 | 25 | 26 | 32 | 33 | 34 | 39 | 40 | 41 | 44 | 45 | 46 | 52 | 53 | 54 | 58 | 59 => Up.eq (.bool true)
  | _ => Up.any
set_option maxHeartbeats 8000000 in
set_option maxRecDepth 20000 in
theorem works10_any {G : World → Prop} (D : Lps G) (w : World) (hG : G w) : Calls Tryz.prog 7 #[] w fun e w' => e = .returned (.bool true) ∧ Below w.heap.size w w' := by
  have HGw := hide hG
  have HD := hide D
  clear hG D
  go_enter Tryz.func7, Tryz.ntmps7
  go_wp2_with fail
  refine (fork_any w).mono ?_; rintro e w1 ⟨v, rfl, hv, b1⟩
  obtain ⟨vp, vb, rfl, ⟨ao, c, rfl, _⟩, ⟨bo, cb, rfl, _⟩⟩ := id hv
  have b2 := below_box w1 (.cells #[.string (bs fFork.1), .slice ao fFork.2.1.length c, .int .i64 fFork.2.2.1, .slice bo fFork.2.2.2.1.length cb, .int .i64 fFork.2.2.2.2] 25)
  have X0 := hide (L5.Box.new w1 [.string (bs [102]), .slice ao 1 c, .int .i64 0, .slice bo 7 cb, .int .i64 0] 25)
  have HV := hide (hv.below b2)
  have HB := hide (below_step b1 b2)
  clear hv b1 b2
  go_upto_region 2 with fail
  show Code.wp _ _ _ _ (w1.alloc (.cells #[.string (bs [102]), .slice ao 1 c, .int .i64 0, .slice bo 7 cb, .int .i64 0] 25))
  replace X0 : Hid (L5.Box (w1.alloc (.cells #[.string (bs [102]), .slice ao 1 c, .int .i64 0, .slice bo 7 cb, .int .i64 0] 25)) w1.heap.size [.string (bs [102]), .slice ao 1 c, .int .i64 0, .slice bo 7 cb, .int .i64 0]) := X0
  replace HV : Hid (FunV (w1.alloc (.cells #[.string (bs [102]), .slice ao 1 c, .int .i64 0, .slice bo 7 cb, .int .i64 0] 25)) fFork (.agg #[.string (bs [102]), .slice ao 1 c, .int .i64 0, .slice bo 7 cb, .int .i64 0])) := HV
  replace HB : Hid (Below w.heap.size w (w1.alloc (.cells #[.string (bs [102]), .slice ao 1 c, .int .i64 0, .slice bo 7 cb, .int .i64 0] 25))) := HB
  generalize w1.alloc (.cells #[.string (bs [102]), .slice ao 1 c, .int .i64 0, .slice bo 7 cb, .int .i64 0] 25) = W at *
  generalize w1.heap.size = q at *
  obtain ⟨x0, x1, x2, x3, x4⟩ : _ ∧ _ ∧ _ ∧ _ ∧ _ := ⟨X0.out.2 0 _ rfl, X0.out.2 1 _ rfl, X0.out.2 2 _ rfl, X0.out.2 3 _ rfl, X0.out.2 4 _ rfl⟩
  have HO := hide (HD.out.of fFork _ W (HD.out.gb HGw.out HB.out) HV.out fork_lgt)
  go_wp2_with fail
  refine HO.out.mono ?_; rintro e W1 ⟨lv, rfl, hL, b2⟩
  have HL := hide hL
  have B2 := hide (below_step HB.out b2)
  have X1 := hide (X0.out.below b2)
  have HV1 := hide (HV.out.below b2)
  rw [fork_loops] at hL
  obtain ⟨lo, lc, rfl, _, _, hl3⟩ := hL
  rcases hl3 with e0 | ⟨g, o, rfl, hlc⟩
  · cases e0
  obtain ⟨hgl, xv, yv, y0, y1, y2, y3, hX, hY⟩ := hlc 0 _ rfl
  obtain ⟨xo, xc, rfl, hx1⟩ := id hX
  obtain ⟨yo, yc, rfl, hy1⟩ := id hY
  rw [Nat.zero_mul, Nat.add_zero] at y0 y1 y2 y3
  clear x0 x1 x2 x3 x4 HO b2 HV X0 HB hlc
  have HX : ∀ w, Below W1.heap.size W1 w → IntsV w [1, 2, 3, 4] (.slice xo 4 xc) := fun w b => hX.below b
  have HY : ∀ w, Below W1.heap.size W1 w → IntsV w [4] (.slice yo 1 yc) := fun w b => hY.below b
  have r3 : R64 3 := ⟨by omega, by omega⟩
  have GW : ∀ w, Below W1.heap.size W1 w → G w := fun w b => HD.out.gb HGw.out (below_step B2.out b)
  have CD : ∀ w, Below W1.heap.size W1 w → Calls Tryz.prog 11 #[(.slice (some ⟨g, o, none⟩) 1 lc), .int .i64 3] w fun e w' => e = .returned (.int .i64 1) ∧ Below w.heap.size w w' := fun w b => by
    have h := HD.out.depth fFork 3 _ w (GW w b) (HL.out.below b) fork_lgt r3
    rw [fork_loops] at h
    exact h
  have CE : ∀ w, Below W1.heap.size W1 w → Calls Tryz.prog 16 #[(.agg #[.string (bs [102]), .slice ao 1 c, .int .i64 0, .slice bo 7 cb, .int .i64 0]), (.agg #[.int .i64 1, .slice xo 4 xc, .slice yo 1 yc, .int .i64 (-1)])] w fun e w' => e = .returned (.int .i64 0) ∧ Below w.heap.size w w' := fun w b => by
    have h := HD.out.entry fFork _ _ (.agg #[.int .i64 1, .slice xo 4 xc, .slice yo 1 yc, .int .i64 (-1)]) w (GW w b) (HV1.out.below b) ⟨_, _, rfl, HX w b, HY w b⟩ (by rw [fork_loops]; exact List.mem_singleton.2 rfl) fork_lgt
    rw [fork_entry] at h
    exact h
  have CI : ∀ w, Below W1.heap.size W1 w → Calls Tryz.prog 14 #[(.slice (some ⟨g, o, none⟩) 1 lc)] w fun e w' => ∃ v, e = .returned v ∧ Below w.heap.size w w' ∧ IntsV w' [0] v := fun w b => by
    have h := HD.out.inner fFork _ w (GW w b) (HL.out.below b) fork_lgt
    rw [fork_loops, fork_inner] at h
    exact h.mono fun e w' ⟨u, he, hu, hb⟩ => ⟨u, he, hb, hu⟩
  have xs := fun (w : World) (b : Below W1.heap.size W1 w) => And.intro ((X1.out.below b).2 0 _ rfl) (And.intro ((X1.out.below b).2 1 _ rfl) (And.intro ((X1.out.below b).2 2 _ rfl) (And.intro ((X1.out.below b).2 3 _ rfl) ((X1.out.below b).2 4 _ rfl))))
  have ys := fun (w : World) (b : Below W1.heap.size W1 w) => And.intro ((b.cell (p := ⟨g, o, none⟩) hgl).trans y0) (And.intro ((b.cell (p := ⟨g, o + 1, none⟩) hgl).trans y1) (And.intro ((b.cell (p := ⟨g, o + 2, none⟩) hgl).trans y2) ((b.cell (p := ⟨g, o + 3, none⟩) hgl).trans y3)))
  clear hX hY hx1 hy1 y0 y1 y2 y3 X1 HV1 HL r3 GW
  go_upto_region 7 with fail
  refine Mix.wp_region_mix (wkUp (.agg #[.string (bs [102]), .slice ao 1 c, .int .i64 0, .slice bo 7 cb, .int .i64 0]) (.slice (some ⟨g, o, none⟩) 1 lc) (.pointer (some ⟨g, o, none⟩)) (.pointer (some ⟨g, o + 1, none⟩)) (.pointer (some ⟨g, o + 2, none⟩)) (.pointer (some ⟨g, o + 3, none⟩)) (.slice xo 4 xc) (.slice yo 1 yc) (.agg #[.int .i64 1, .slice xo 4 xc, .slice yo 1 yc, .int .i64 (-1)])) (by kernel_rfl) (by kernel_rfl) ?_
  refine Mix.mix_step rfl (valid_eq (.slice (some ⟨g, o, none⟩) 1 lc) rfl) ?_ ?_
  · intro w b k
    clear k
    simp [go_sem]
    exact ⟨Below.refl _ _, fun d hd => by cases hd; rfl⟩
  rintro v ⟨_, _, h⟩
  obtain rfl : v = (.slice (some ⟨g, o, none⟩) 1 lc) := h _ rfl
  clear h
  simp only [Act.put, List.setIfInBounds_toArray, List.set_cons_succ, List.set_cons_zero]
  refine Mix.mix_step rfl (valid_eq (.pointer (some ⟨g, o, none⟩)) rfl) ?_ ?_
  · intro w b k
    clear k
    simp [go_sem]
    exact ⟨Below.refl _ _, fun d hd => by cases hd; rfl⟩
  rintro v ⟨_, _, h⟩
  obtain rfl : v = (.pointer (some ⟨g, o, none⟩)) := h _ rfl
  clear h
  simp only [Act.put, List.setIfInBounds_toArray, List.set_cons_succ, List.set_cons_zero]
  refine Mix.mix_step rfl (valid_eq (.pointer (some ⟨g, o, none⟩)) rfl) ?_ ?_
  · intro w b k
    clear k
    simp [go_sem]
    exact ⟨Below.refl _ _, fun d hd => by cases hd; rfl⟩
  rintro v ⟨_, _, h⟩
  obtain rfl : v = (.pointer (some ⟨g, o, none⟩)) := h _ rfl
  clear h
  simp only [Act.put, List.setIfInBounds_toArray, List.set_cons_succ, List.set_cons_zero]
  refine Mix.mix_step rfl (valid_eq (.int .i64 1) rfl) ?_ ?_
  · intro w b k
    obtain ⟨y0, y1, y2, y3⟩ := ys w b
    clear k
    simp [go_sem, y0]
    exact ⟨Below.refl _ _, fun d hd => by cases hd; rfl⟩
  rintro v ⟨_, _, h⟩
  obtain rfl : v = (.int .i64 1) := h _ rfl
  clear h
  simp only [Act.put, List.setIfInBounds_toArray, List.set_cons_succ, List.set_cons_zero]
  refine Mix.mix_step rfl (valid_eq (.bool true) rfl) ?_ ?_
  · intro w b k
    clear k
    simp [go_sem]
    exact ⟨Below.refl _ _, fun d hd => by cases hd; rfl⟩
  rintro v ⟨_, _, h⟩
  obtain rfl : v = (.bool true) := h _ rfl
  clear h
  simp only [Act.put, List.setIfInBounds_toArray, List.set_cons_succ, List.set_cons_zero]
  refine Mix.mix_step rfl (valid_eq (.bool true) rfl) ?_ ?_
  · intro w b k
    clear k
    simp [go_sem]
    exact ⟨Below.refl _ _, fun d hd => by cases hd; rfl⟩
  rintro v ⟨_, _, h⟩
  obtain rfl : v = (.bool true) := h _ rfl
  clear h
  simp only [Act.put, List.setIfInBounds_toArray, List.set_cons_succ, List.set_cons_zero]
  refine Mix.mix_step rfl (valid_eq (.slice (some ⟨g, o, none⟩) 1 lc) rfl) ?_ ?_
  · intro w b k
    clear k
    simp [go_sem]
    exact ⟨Below.refl _ _, fun d hd => by cases hd; rfl⟩
  rintro v ⟨_, _, h⟩
  obtain rfl : v = (.slice (some ⟨g, o, none⟩) 1 lc) := h _ rfl
  clear h
  simp only [Act.put, List.setIfInBounds_toArray, List.set_cons_succ, List.set_cons_zero]
  refine Mix.mix_step rfl (valid_eq (.pointer (some ⟨g, o, none⟩)) rfl) ?_ ?_
  · intro w b k
    clear k
    simp [go_sem]
    exact ⟨Below.refl _ _, fun d hd => by cases hd; rfl⟩
  rintro v ⟨_, _, h⟩
  obtain rfl : v = (.pointer (some ⟨g, o, none⟩)) := h _ rfl
  clear h
  simp only [Act.put, List.setIfInBounds_toArray, List.set_cons_succ, List.set_cons_zero]
  refine Mix.mix_step rfl (valid_eq (.pointer (some ⟨g, o + 1, none⟩)) rfl) ?_ ?_
  · intro w b k
    clear k
    simp [go_sem]
    exact ⟨Below.refl _ _, fun d hd => by cases hd; rfl⟩
  rintro v ⟨_, _, h⟩
  obtain rfl : v = (.pointer (some ⟨g, o + 1, none⟩)) := h _ rfl
  clear h
  simp only [Act.put, List.setIfInBounds_toArray, List.set_cons_succ, List.set_cons_zero]
  refine Mix.mix_step rfl (valid_eq (.slice xo 4 xc) rfl) ?_ ?_
  · intro w b k
    obtain ⟨y0, y1, y2, y3⟩ := ys w b
    clear k
    simp [go_sem, y1]
    exact ⟨Below.refl _ _, fun d hd => by cases hd; rfl⟩
  rintro v ⟨_, _, h⟩
  obtain rfl : v = (.slice xo 4 xc) := h _ rfl
  clear h
  simp only [Act.put, List.setIfInBounds_toArray, List.set_cons_succ, List.set_cons_zero]
  refine Mix.mix_step rfl ⟨.slice (some ⟨W1.heap.size, 0, none⟩) 4 4, _, below_box W1 (.cells #[.int .i64 1, .int .i64 2, .int .i64 3, .int .i64 4] 3), fun d hd => by cases hd; exact lit_1_2_3_4 W1⟩ ?_ ?_
  · intro w b k
    clear k
    simp [go_sem]
    exact ⟨below_box _ _, fun d hd => by cases hd; exact lit_1_2_3_4 w⟩
  rintro p23 -
  simp only [Act.put, List.setIfInBounds_toArray, List.set_cons_succ, List.set_cons_zero]
  refine Mix.mix_step rfl (valid_eq (.bool true) rfl) ?_ ?_
  · intro w b k
    have f1 : IntsV w [1, 2, 3, 4] p23 := k 23 (by decide +kernel) (by simp [Mix.add]) p23 rfl
    clear k
    simp [go_sem]
    exact Calls.mono (ints_any _ _ _ w (HX w b) f1) fun e w' ⟨he, hb⟩ => ⟨_, he, hb, fun d hd => by cases hd; rfl⟩
  rintro v ⟨_, _, h⟩
  obtain rfl : v = (.bool true) := h _ rfl
  clear h
  simp only [Act.put, List.setIfInBounds_toArray, List.set_cons_succ, List.set_cons_zero]
  refine Mix.mix_step rfl (valid_eq (.bool true) rfl) ?_ ?_
  · intro w b k
    clear k
    simp [go_sem]
    exact ⟨Below.refl _ _, fun d hd => by cases hd; rfl⟩
  rintro v ⟨_, _, h⟩
  obtain rfl : v = (.bool true) := h _ rfl
  clear h
  simp only [Act.put, List.setIfInBounds_toArray, List.set_cons_succ, List.set_cons_zero]
  refine Mix.mix_step rfl (valid_eq (.bool true) rfl) ?_ ?_
  · intro w b k
    clear k
    simp [go_sem]
    exact ⟨Below.refl _ _, fun d hd => by cases hd; rfl⟩
  rintro v ⟨_, _, h⟩
  obtain rfl : v = (.bool true) := h _ rfl
  clear h
  simp only [Act.put, List.setIfInBounds_toArray, List.set_cons_succ, List.set_cons_zero]
  refine Mix.mix_step rfl (valid_eq (.slice (some ⟨g, o, none⟩) 1 lc) rfl) ?_ ?_
  · intro w b k
    clear k
    simp [go_sem]
    exact ⟨Below.refl _ _, fun d hd => by cases hd; rfl⟩
  rintro v ⟨_, _, h⟩
  obtain rfl : v = (.slice (some ⟨g, o, none⟩) 1 lc) := h _ rfl
  clear h
  simp only [Act.put, List.setIfInBounds_toArray, List.set_cons_succ, List.set_cons_zero]
  refine Mix.mix_step rfl (valid_eq (.pointer (some ⟨g, o, none⟩)) rfl) ?_ ?_
  · intro w b k
    clear k
    simp [go_sem]
    exact ⟨Below.refl _ _, fun d hd => by cases hd; rfl⟩
  rintro v ⟨_, _, h⟩
  obtain rfl : v = (.pointer (some ⟨g, o, none⟩)) := h _ rfl
  clear h
  simp only [Act.put, List.setIfInBounds_toArray, List.set_cons_succ, List.set_cons_zero]
  refine Mix.mix_step rfl (valid_eq (.pointer (some ⟨g, o + 2, none⟩)) rfl) ?_ ?_
  · intro w b k
    clear k
    simp [go_sem]
    exact ⟨Below.refl _ _, fun d hd => by cases hd; rfl⟩
  rintro v ⟨_, _, h⟩
  obtain rfl : v = (.pointer (some ⟨g, o + 2, none⟩)) := h _ rfl
  clear h
  simp only [Act.put, List.setIfInBounds_toArray, List.set_cons_succ, List.set_cons_zero]
  refine Mix.mix_step rfl (valid_eq (.slice yo 1 yc) rfl) ?_ ?_
  · intro w b k
    obtain ⟨y0, y1, y2, y3⟩ := ys w b
    clear k
    simp [go_sem, y2]
    exact ⟨Below.refl _ _, fun d hd => by cases hd; rfl⟩
  rintro v ⟨_, _, h⟩
  obtain rfl : v = (.slice yo 1 yc) := h _ rfl
  clear h
  simp only [Act.put, List.setIfInBounds_toArray, List.set_cons_succ, List.set_cons_zero]
  refine Mix.mix_step rfl ⟨.slice (some ⟨W1.heap.size, 0, none⟩) 1 1, _, below_box W1 (.cells #[.int .i64 4] 3), fun d hd => by cases hd; exact lit_4 W1⟩ ?_ ?_
  · intro w b k
    clear k
    simp [go_sem]
    exact ⟨below_box _ _, fun d hd => by cases hd; exact lit_4 w⟩
  rintro p31 -
  simp only [Act.put, List.setIfInBounds_toArray, List.set_cons_succ, List.set_cons_zero]
  refine Mix.mix_step rfl (valid_eq (.bool true) rfl) ?_ ?_
  · intro w b k
    have f1 : IntsV w [4] p31 := k 31 (by decide +kernel) (by simp [Mix.add]) p31 rfl
    clear k
    simp [go_sem]
    exact Calls.mono (ints_any _ _ _ w (HY w b) f1) fun e w' ⟨he, hb⟩ => ⟨_, he, hb, fun d hd => by cases hd; rfl⟩
  rintro v ⟨_, _, h⟩
  obtain rfl : v = (.bool true) := h _ rfl
  clear h
  simp only [Act.put, List.setIfInBounds_toArray, List.set_cons_succ, List.set_cons_zero]
  refine Mix.mix_step rfl (valid_eq (.bool true) rfl) ?_ ?_
  · intro w b k
    clear k
    simp [go_sem]
    exact ⟨Below.refl _ _, fun d hd => by cases hd; rfl⟩
  rintro v ⟨_, _, h⟩
  obtain rfl : v = (.bool true) := h _ rfl
  clear h
  simp only [Act.put, List.setIfInBounds_toArray, List.set_cons_succ, List.set_cons_zero]
  refine Mix.mix_step rfl (valid_eq (.bool true) rfl) ?_ ?_
  · intro w b k
    clear k
    simp [go_sem]
    exact ⟨Below.refl _ _, fun d hd => by cases hd; rfl⟩
  rintro v ⟨_, _, h⟩
  obtain rfl : v = (.bool true) := h _ rfl
  clear h
  simp only [Act.put, List.setIfInBounds_toArray, List.set_cons_succ, List.set_cons_zero]
  refine Mix.mix_step rfl (valid_eq (.slice (some ⟨g, o, none⟩) 1 lc) rfl) ?_ ?_
  · intro w b k
    clear k
    simp [go_sem]
    exact ⟨Below.refl _ _, fun d hd => by cases hd; rfl⟩
  rintro v ⟨_, _, h⟩
  obtain rfl : v = (.slice (some ⟨g, o, none⟩) 1 lc) := h _ rfl
  clear h
  simp only [Act.put, List.setIfInBounds_toArray, List.set_cons_succ, List.set_cons_zero]
  refine Mix.mix_step rfl (valid_eq (.pointer (some ⟨g, o, none⟩)) rfl) ?_ ?_
  · intro w b k
    clear k
    simp [go_sem]
    exact ⟨Below.refl _ _, fun d hd => by cases hd; rfl⟩
  rintro v ⟨_, _, h⟩
  obtain rfl : v = (.pointer (some ⟨g, o, none⟩)) := h _ rfl
  clear h
  simp only [Act.put, List.setIfInBounds_toArray, List.set_cons_succ, List.set_cons_zero]
  refine Mix.mix_step rfl (valid_eq (.pointer (some ⟨g, o + 3, none⟩)) rfl) ?_ ?_
  · intro w b k
    clear k
    simp [go_sem]
    exact ⟨Below.refl _ _, fun d hd => by cases hd; rfl⟩
  rintro v ⟨_, _, h⟩
  obtain rfl : v = (.pointer (some ⟨g, o + 3, none⟩)) := h _ rfl
  clear h
  simp only [Act.put, List.setIfInBounds_toArray, List.set_cons_succ, List.set_cons_zero]
  refine Mix.mix_step rfl (valid_eq (.int .i64 (-1)) rfl) ?_ ?_
  · intro w b k
    obtain ⟨y0, y1, y2, y3⟩ := ys w b
    clear k
    simp [go_sem, y3]
    exact ⟨Below.refl _ _, fun d hd => by cases hd; rfl⟩
  rintro v ⟨_, _, h⟩
  obtain rfl : v = (.int .i64 (-1)) := h _ rfl
  clear h
  simp only [Act.put, List.setIfInBounds_toArray, List.set_cons_succ, List.set_cons_zero]
  refine Mix.mix_step rfl (valid_eq (.bool true) rfl) ?_ ?_
  · intro w b k
    clear k
    simp [go_sem]
    exact ⟨Below.refl _ _, fun d hd => by cases hd; rfl⟩
  rintro v ⟨_, _, h⟩
  obtain rfl : v = (.bool true) := h _ rfl
  clear h
  simp only [Act.put, List.setIfInBounds_toArray, List.set_cons_succ, List.set_cons_zero]
  refine Mix.mix_step rfl (valid_eq (.bool true) rfl) ?_ ?_
  · intro w b k
    clear k
    simp [go_sem]
    exact ⟨Below.refl _ _, fun d hd => by cases hd; rfl⟩
  rintro v ⟨_, _, h⟩
  obtain rfl : v = (.bool true) := h _ rfl
  clear h
  simp only [Act.put, List.setIfInBounds_toArray, List.set_cons_succ, List.set_cons_zero]
  refine Mix.mix_step rfl (valid_eq (.bool true) rfl) ?_ ?_
  · intro w b k
    clear k
    simp [go_sem]
    exact ⟨Below.refl _ _, fun d hd => by cases hd; rfl⟩
  rintro v ⟨_, _, h⟩
  obtain rfl : v = (.bool true) := h _ rfl
  clear h
  simp only [Act.put, List.setIfInBounds_toArray, List.set_cons_succ, List.set_cons_zero]
  refine Mix.mix_step rfl (valid_eq (.slice (some ⟨g, o, none⟩) 1 lc) rfl) ?_ ?_
  · intro w b k
    clear k
    simp [go_sem]
    exact ⟨Below.refl _ _, fun d hd => by cases hd; rfl⟩
  rintro v ⟨_, _, h⟩
  obtain rfl : v = (.slice (some ⟨g, o, none⟩) 1 lc) := h _ rfl
  clear h
  simp only [Act.put, List.setIfInBounds_toArray, List.set_cons_succ, List.set_cons_zero]
  refine Mix.mix_step rfl (valid_eq (.int .i64 1) rfl) ?_ ?_
  · intro w b k
    clear k
    simp [go_sem]
    exact Calls.mono (CD w b) fun e w' ⟨he, hb⟩ => ⟨_, he, hb, fun d hd => by cases hd; rfl⟩
  rintro v ⟨_, _, h⟩
  obtain rfl : v = (.int .i64 1) := h _ rfl
  clear h
  simp only [Act.put, List.setIfInBounds_toArray, List.set_cons_succ, List.set_cons_zero]
  refine Mix.mix_step rfl (valid_eq (.bool true) rfl) ?_ ?_
  · intro w b k
    clear k
    simp [go_sem]
    exact ⟨Below.refl _ _, fun d hd => by cases hd; rfl⟩
  rintro v ⟨_, _, h⟩
  obtain rfl : v = (.bool true) := h _ rfl
  clear h
  simp only [Act.put, List.setIfInBounds_toArray, List.set_cons_succ, List.set_cons_zero]
  refine Mix.mix_step rfl (valid_eq (.bool true) rfl) ?_ ?_
  · intro w b k
    clear k
    simp [go_sem]
    exact ⟨Below.refl _ _, fun d hd => by cases hd; rfl⟩
  rintro v ⟨_, _, h⟩
  obtain rfl : v = (.bool true) := h _ rfl
  clear h
  simp only [Act.put, List.setIfInBounds_toArray, List.set_cons_succ, List.set_cons_zero]
  refine Mix.mix_step rfl (valid_eq (.bool true) rfl) ?_ ?_
  · intro w b k
    clear k
    simp [go_sem]
    exact ⟨Below.refl _ _, fun d hd => by cases hd; rfl⟩
  rintro v ⟨_, _, h⟩
  obtain rfl : v = (.bool true) := h _ rfl
  clear h
  simp only [Act.put, List.setIfInBounds_toArray, List.set_cons_succ, List.set_cons_zero]
  refine Mix.mix_step rfl (valid_eq (.agg #[.string (bs [102]), .slice ao 1 c, .int .i64 0, .slice bo 7 cb, .int .i64 0]) rfl) ?_ ?_
  · intro w b k
    obtain ⟨x0, x1, x2, x3, x4⟩ := xs w b
    clear k
    simp [go_sem, x0, x1, x2, x3, x4]
    exact ⟨Below.refl _ _, fun d hd => by cases hd; rfl⟩
  rintro v ⟨_, _, h⟩
  obtain rfl : v = (.agg #[.string (bs [102]), .slice ao 1 c, .int .i64 0, .slice bo 7 cb, .int .i64 0]) := h _ rfl
  clear h
  simp only [Act.put, List.setIfInBounds_toArray, List.set_cons_succ, List.set_cons_zero]
  refine Mix.mix_step rfl (valid_eq (.slice (some ⟨g, o, none⟩) 1 lc) rfl) ?_ ?_
  · intro w b k
    clear k
    simp [go_sem]
    exact ⟨Below.refl _ _, fun d hd => by cases hd; rfl⟩
  rintro v ⟨_, _, h⟩
  obtain rfl : v = (.slice (some ⟨g, o, none⟩) 1 lc) := h _ rfl
  clear h
  simp only [Act.put, List.setIfInBounds_toArray, List.set_cons_succ, List.set_cons_zero]
  refine Mix.mix_step rfl (valid_eq (.pointer (some ⟨g, o, none⟩)) rfl) ?_ ?_
  · intro w b k
    clear k
    simp [go_sem]
    exact ⟨Below.refl _ _, fun d hd => by cases hd; rfl⟩
  rintro v ⟨_, _, h⟩
  obtain rfl : v = (.pointer (some ⟨g, o, none⟩)) := h _ rfl
  clear h
  simp only [Act.put, List.setIfInBounds_toArray, List.set_cons_succ, List.set_cons_zero]
  refine Mix.mix_step rfl (valid_eq (.agg #[.int .i64 1, .slice xo 4 xc, .slice yo 1 yc, .int .i64 (-1)]) rfl) ?_ ?_
  · intro w b k
    obtain ⟨y0, y1, y2, y3⟩ := ys w b
    clear k
    simp [go_sem, y0, y1, y2, y3]
    exact ⟨Below.refl _ _, fun d hd => by cases hd; rfl⟩
  rintro v ⟨_, _, h⟩
  obtain rfl : v = (.agg #[.int .i64 1, .slice xo 4 xc, .slice yo 1 yc, .int .i64 (-1)]) := h _ rfl
  clear h
  simp only [Act.put, List.setIfInBounds_toArray, List.set_cons_succ, List.set_cons_zero]
  refine Mix.mix_step rfl (valid_eq (.int .i64 0) rfl) ?_ ?_
  · intro w b k
    clear k
    simp [go_sem]
    exact Calls.mono (CE w b) fun e w' ⟨he, hb⟩ => ⟨_, he, hb, fun d hd => by cases hd; rfl⟩
  rintro v ⟨_, _, h⟩
  obtain rfl : v = (.int .i64 0) := h _ rfl
  clear h
  simp only [Act.put, List.setIfInBounds_toArray, List.set_cons_succ, List.set_cons_zero]
  refine Mix.mix_step rfl (valid_eq (.bool true) rfl) ?_ ?_
  · intro w b k
    clear k
    simp [go_sem]
    exact ⟨Below.refl _ _, fun d hd => by cases hd; rfl⟩
  rintro v ⟨_, _, h⟩
  obtain rfl : v = (.bool true) := h _ rfl
  clear h
  simp only [Act.put, List.setIfInBounds_toArray, List.set_cons_succ, List.set_cons_zero]
  refine Mix.mix_step rfl (valid_eq (.bool true) rfl) ?_ ?_
  · intro w b k
    clear k
    simp [go_sem]
    exact ⟨Below.refl _ _, fun d hd => by cases hd; rfl⟩
  rintro v ⟨_, _, h⟩
  obtain rfl : v = (.bool true) := h _ rfl
  clear h
  simp only [Act.put, List.setIfInBounds_toArray, List.set_cons_succ, List.set_cons_zero]
  refine Mix.mix_step rfl (valid_eq (.bool true) rfl) ?_ ?_
  · intro w b k
    clear k
    simp [go_sem]
    exact ⟨Below.refl _ _, fun d hd => by cases hd; rfl⟩
  rintro v ⟨_, _, h⟩
  obtain rfl : v = (.bool true) := h _ rfl
  clear h
  simp only [Act.put, List.setIfInBounds_toArray, List.set_cons_succ, List.set_cons_zero]
  refine Mix.mix_step rfl (valid_eq (.slice (some ⟨g, o, none⟩) 1 lc) rfl) ?_ ?_
  · intro w b k
    clear k
    simp [go_sem]
    exact ⟨Below.refl _ _, fun d hd => by cases hd; rfl⟩
  rintro v ⟨_, _, h⟩
  obtain rfl : v = (.slice (some ⟨g, o, none⟩) 1 lc) := h _ rfl
  clear h
  simp only [Act.put, List.setIfInBounds_toArray, List.set_cons_succ, List.set_cons_zero]
  refine Mix.mix_step rfl (valid_of (CI W1 (Below.refl _ _))) ?_ ?_
  · intro w b k
    clear k
    simp [go_sem]
    exact Calls.mono (CI w b) fun e w' ⟨v, he, hb, hf⟩ => ⟨v, he, hb, fun d hd => by cases hd; exact hf⟩
  rintro p56 -
  simp only [Act.put, List.setIfInBounds_toArray, List.set_cons_succ, List.set_cons_zero]
  refine Mix.mix_step rfl ⟨.slice (some ⟨W1.heap.size, 0, none⟩) 1 1, _, below_box W1 (.cells #[.int .i64 0] 3), fun d hd => by cases hd; exact lit_0 W1⟩ ?_ ?_
  · intro w b k
    clear k
    simp [go_sem]
    exact ⟨below_box _ _, fun d hd => by cases hd; exact lit_0 w⟩
  rintro p57 -
  simp only [Act.put, List.setIfInBounds_toArray, List.set_cons_succ, List.set_cons_zero]
  refine Mix.mix_step rfl (valid_eq (.bool true) rfl) ?_ ?_
  · intro w b k
    have f1 : IntsV w [0] p56 := k 56 (by decide +kernel) (by simp [Mix.add]) p56 rfl
    have f2 : IntsV w [0] p57 := k 57 (by decide +kernel) (by simp [Mix.add]) p57 rfl
    clear k
    simp [go_sem]
    exact Calls.mono (ints_any _ _ _ w f1 f2) fun e w' ⟨he, hb⟩ => ⟨_, he, hb, fun d hd => by cases hd; rfl⟩
  rintro v ⟨_, _, h⟩
  obtain rfl : v = (.bool true) := h _ rfl
  clear h
  simp only [Act.put, List.setIfInBounds_toArray, List.set_cons_succ, List.set_cons_zero]
  refine Mix.mix_step rfl (valid_eq (.bool true) rfl) ?_ ?_
  · intro w b k
    clear k
    simp [go_sem]
    exact ⟨Below.refl _ _, fun d hd => by cases hd; rfl⟩
  rintro v ⟨_, _, h⟩
  obtain rfl : v = (.bool true) := h _ rfl
  clear h
  simp only [Act.put, List.setIfInBounds_toArray, List.set_cons_succ, List.set_cons_zero]
  refine Mix.mix_step rfl (valid_eq (.bool true) rfl) ?_ ?_
  · intro w b k
    clear k
    simp [go_sem]
    exact ⟨Below.refl _ _, fun d hd => by cases hd; rfl⟩
  rintro v ⟨_, _, h⟩
  obtain rfl : v = (.bool true) := h _ rfl
  clear h
  simp only [Act.put, List.setIfInBounds_toArray, List.set_cons_zero]
  refine Mix.mix_nil ?_
  intro w4 b4 hk4
  have HE := hide (below_step B2.out b4)
  clear HX HY CD CE CI xs ys b4 hk4
  go_wp2_with fail
  go_ret
  exact ⟨rfl, HE.out⟩
end Go.Proofs.YtmiplohoclckcaaGreat
