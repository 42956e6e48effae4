/- Layer 10, the reference: Entry. -/
import Derived.Test.YtmiplohoclckcaaGreatLtBB
namespace Go.Proofs.YtmiplohoclckcaaGreat
open Go Go.RowKit
open G (Tok Er Ins Fun)
open Mix (Up)
/-- A loop, as it is handed on. -/
def LoopV (w : World) (x : Lp) (v : Value) : Prop := ∃ vb vk, v = .agg #[.int .i64 x.1, vb, vk, .int .i64 x.2.2.2] ∧ IntsV w x.2.1 vb ∧ IntsV w x.2.2.1 vk
theorem LoopV.below {w w' : World} {x : Lp} {v : Value} (h : LoopV w x v) (b : Below w.heap.size w w') : LoopV w' x v := by
  obtain ⟨vb, vk, e, h1, h2⟩ := h
  exact ⟨vb, vk, e, h1.below b, h2.below b⟩
theorem entersK_max (f : Fun) (x : Lp) : ∀ K, (entersK f x K).length ≤ K := by
  intro K
  unfold entersK
  rw [List.length_map]
  exact Nat.le_trans (List.length_filter_le _ _) (by simp)
theorem entersK_mem {f : Fun} {x : Lp} {K : Nat} {k : Int} (h : k ∈ entersK f x K) : ∃ J : Nat, k = J ∧ J < K := by
  unfold entersK at h
  obtain ⟨J, hJ, rfl⟩ := List.mem_map.1 h
  exact ⟨J, rfl, List.mem_range.1 (List.mem_filter.1 hJ).1⟩
theorem entryF_many {f : Fun} {x : Lp} (h : (entersK f x f.2.2.2.1.length).length ≠ 1) : entryF f x = -1 := by
  unfold entryF
  split
  · rename_i e; rw [e] at h; simp at h
  · rfl
theorem entryF_one {f : Fun} {x : Lp} {K : Nat} (h : entersK f x f.2.2.2.1.length = [(K : Int)]) : entryF f x = if (nextF f K).length = 1 then (K : Int) else -1 := by
  unfold entryF
  rw [h]
  rfl
def enUp (fv : Value) (f : Fun) (sv : Value) (xh : Int) (q2 K : Nat) (r : Bool) (t : Tmp) : Up := match t with
  | 14 => Up.eq (.pointer (some ⟨q2, 1, none⟩))
  | 15 => Up.eq sv
  | 16 | 21 => Up.eq (.int .i64 (K : Int))
  | 17 => Up.eq (.bool false)
  | 18 | 19 => Up.eq (.bool true)
  | 20 => Up.eq fv
  | 22 => Up.ints (nextF f K)
  | 23 => Up.eq (.pointer (some ⟨q2, 0, none⟩))
  | 24 => Up.eq (.int .i64 xh)
  | 25 | 26 => Up.eq (.bool r)
  | _ => Up.any
def eoUp (fv : Value) (f : Fun) (sv pv : Value) (K nn : Nat) (r : Bool) (t : Tmp) : Up := match t with
  | 31 | 36 => Up.eq sv
  | 32 => Up.eq (.int .i64 1)
  | 33 | 34 => Up.eq (.bool false)
  | 35 => Up.eq fv
  | 37 => Up.eq pv
  | 38 => Up.eq (.int .i64 (K : Int))
  | 39 => Up.ints (nextF f K)
  | 40 => Up.eq (.int .i64 (nn : Int))
  | 41 | 42 => Up.eq (.bool r)
  | _ => Up.any
set_option maxHeartbeats 2000000 in
set_option maxRecDepth 20000 in
theorem rentry_any (f : Fun) (x : Lp) (v xv : Value) (w : World) (hv : FunV w f v) (hx : LoopV w x xv) (hF : Ful f) :
    Calls Tryz.prog 17 #[v, xv] w fun e w' => e = .returned (.int .i64 (entryF f x)) ∧ Below w.heap.size w w' := by
  obtain ⟨i0, hi0, hz0, hz1, hz2⟩ := info_parts Tryz.info3
  obtain ⟨xvb, xvk, rfl, hxb, hxk⟩ := hx
  obtain ⟨bo, bc, rfl, xb1, xb2, xb3⟩ := id hxb
  obtain ⟨ko, kc, rfl, xk1, xk2, xk3⟩ := id hxk
  have hv2 := hv
  obtain ⟨vp, vb, rfl, _, _⟩ := hv2
  have b0 := below_box w (.cells #[.string (bs f.1), vp, .int .i64 f.2.2.1, vb, .int .i64 f.2.2.2.2] 25)
  have X0 := hide (L5.Box.new w [.string (bs f.1), vp, .int .i64 f.2.2.1, vb, .int .i64 f.2.2.2.2] 25)
  have HV := hide (hv.below b0)
  have B0 := hide b0
  have HXb := hide (xb1.below b0)
  have HN := hide (fun v (K : Nat) w hv hk => next_any f K v w hv hF hk)
  have HLn := hide (fun (K : Nat) (hk : K < f.2.2.2.1.length) => nextF_len hF hk)
  have hN : f.2.2.2.1.length ≤ 1000000 := hF.1
  have hxm : x.2.1.length ≤ maxLen := Nat.le_trans xb2 xb3
  have HHx := hide (fun (K : Nat) (w : World) (hs : Sl w bo x.2.1) => rhas_any x.2.1 K bo bc w hs hxm)
  clear hF hxb hxk xb1 xb2 xb3 xk1 xk2 xk3 hxm
  clear b0 hv
  obtain ⟨lp, cp, rfl⟩ : ∃ ao c, vp = .slice ao f.2.1.length c := by
    obtain ⟨vp', vb', e, ⟨ao, c, e2, _⟩, _⟩ := HV.out
    injection e with e
    have e1 := congrArg (fun a => a[1]?) e
    simp at e1
    exact ⟨ao, c, by rw [e1, e2]⟩
  obtain ⟨lb, cb, rfl⟩ : ∃ ao c, vb = .slice ao f.2.2.2.1.length c := by
    obtain ⟨vp', vb', e, _, ⟨ao, c, e2, _⟩⟩ := HV.out
    injection e with e
    have e1 := congrArg (fun a => a[3]?) e
    simp at e1
    exact ⟨ao, c, by rw [e1, e2]⟩
  generalize bs f.1 = nm at *
  generalize f.2.1.length = lps at *
  generalize f.2.2.1 = rt at *
  obtain ⟨lbs, hlbs⟩ : ∃ n, n = f.2.2.2.1.length := ⟨_, rfl⟩
  have HMany : Hid ((entersK f x lbs).length ≠ 1 → entryF f x = -1) := hide (by rw [hlbs]; exact entryF_many)
  have HOne : Hid (∀ K : Nat, entersK f x lbs = [(K : Int)] → entryF f x = if (nextF f K).length = 1 then (K : Int) else -1) := hide (by rw [hlbs]; intro K; exact entryF_one)
  rw [← hlbs] at X0 HV B0 hN HN HLn HXb ⊢
  clear hlbs
  generalize f.2.2.2.2 = pl at *
  obtain ⟨ans, HAns⟩ : ∃ r, Hid (entryF f x = r) := ⟨_, hide rfl⟩
  rw [HAns.out] at HMany HOne ⊢
  have b1 := below_box (w.alloc (.cells #[.string nm, .slice lp lps cp, .int .i64 rt, .slice lb lbs cb, .int .i64 pl] 25)) (.cells #[.int .i64 x.1, .slice bo x.2.1.length bc, .slice ko x.2.2.1.length kc, .int .i64 x.2.2.2] 36)
  replace X0 : Hid (L5.Box (w.alloc (.cells #[.string nm, .slice lp lps cp, .int .i64 rt, .slice lb lbs cb, .int .i64 pl] 25)) w.heap.size [.string nm, .slice lp lps cp, .int .i64 rt, .slice lb lbs cb, .int .i64 pl]) := X0
  replace X0 := hide (X0.out.below b1)
  have Y0 := hide (L5.Box.new (w.alloc (.cells #[.string nm, .slice lp lps cp, .int .i64 rt, .slice lb lbs cb, .int .i64 pl] 25)) [.int .i64 x.1, .slice bo x.2.1.length bc, .slice ko x.2.2.1.length kc, .int .i64 x.2.2.2] 36)
  replace HV := hide (HV.out.below b1)
  replace HXb := hide (HXb.out.below b1)
  replace B0 := hide (below_step B0.out b1)
  clear b1
  obtain ⟨xh, hxh⟩ : ∃ y, x.1 = y := ⟨_, rfl⟩
  obtain ⟨nb, hnb⟩ : ∃ y, x.2.1.length = y := ⟨_, rfl⟩
  rw [hxh, hnb] at X0 Y0 B0 HV HXb ⊢
  rw [hnb] at HHx
  generalize x.2.2.1.length = nk at *
  generalize x.2.2.2 = xu at *
  go_enter Tryz.func17, Tryz.ntmps17
  go_upto_region 1 with fail
  show Code.wp _ _ _ _ ((w.alloc (.cells #[.string nm, .slice lp lps cp, .int .i64 rt, .slice lb lbs cb, .int .i64 pl] 25)).alloc (.cells #[.int .i64 xh, .slice bo nb bc, .slice ko nk kc, .int .i64 xu] 36))
  have hq2 : (w.alloc (.cells #[.string nm, .slice lp lps cp, .int .i64 rt, .slice lb lbs cb, .int .i64 pl] 25)).heap.size = w.heap.size + 1 := by simp
  rw [hq2] at Y0
  clear hq2
  replace Y0 : Hid (L5.Box ((w.alloc (.cells #[.string nm, .slice lp lps cp, .int .i64 rt, .slice lb lbs cb, .int .i64 pl] 25)).alloc (.cells #[.int .i64 xh, .slice bo nb bc, .slice ko nk kc, .int .i64 xu] 36)) (w.heap.size + 1) [.int .i64 xh, .slice bo nb bc, .slice ko nk kc, .int .i64 xu]) := Y0
  generalize (w.alloc (.cells #[.string nm, .slice lp lps cp, .int .i64 rt, .slice lb lbs cb, .int .i64 pl] 25)).alloc (.cells #[.int .i64 xh, .slice bo nb bc, .slice ko nk kc, .int .i64 xu] 36) = W at *
  obtain ⟨q2, hq2⟩ : ∃ q2, w.heap.size + 1 = q2 := ⟨_, rfl⟩
  rw [hq2] at Y0 ⊢
  clear hq2
  obtain ⟨w0, hw0⟩ : ∃ w0, w0 = w := ⟨_, rfl⟩
  rw [← hw0] at B0 X0 ⊢
  have Hw0 := hide hw0
  clear hw0
  generalize hq : w0.heap.size = q at *
  go_wp2_with fail
  go_loopw [5, 6] (fun nv i wr => ∃ K : Nat, K ≤ lbs ∧ i = .int .i64 K ∧ Hid (Grw W (entersK f x K) nv wr)) (fun _ i _ => lbs - (intOf i).toNat)
  case atStart => exact ⟨0, Nat.zero_le _, rfl, hide (Grw.start _)⟩
  case round =>
    obtain ⟨K, hK, rfl, HG⟩ := hrel
    have hkl := entersK_max f x K
    obtain ⟨mo, mc, rfl, _, _⟩ := HG.out.slice
    have X1 := hide (X0.out.below HG.out.2)
    have Y1 := hide (Y0.out.below HG.out.2)
    obtain ⟨x0, x1, x2, x3, x4⟩ : _ ∧ _ ∧ _ ∧ _ ∧ _ := ⟨X1.out.2 0 _ rfl, X1.out.2 1 _ rfl, X1.out.2 2 _ rfl, X1.out.2 3 _ rfl, X1.out.2 4 _ rfl⟩
    obtain ⟨W1, hW1⟩ : ∃ W1, W1 = wr := ⟨_, rfl⟩
    by_cases hkt : K < lbs
    · have hkI : (K : Int) < lbs := by omega
      have hnl := HLn.out K hkt
      go_upto_region 5 with fail
      clear x0 x1 x2 x3 x4
      rw [← hW1] at X1 Y1 HG ⊢
      clear hW1
      have HV1 := hide (HV.out.below HG.out.2)
      have HX1 := hide (HXb.out.below HG.out.2)
      cases hh : hasL x.2.1 K with
      | true =>
        have HE0 : Hid (entersK f x (K + 1) = entersK f x K) := hide (entersK_no (by rw [hh]; rfl))
        have y1 := fun z => ((Y1.out.below (L5.grewTo_below W1 z)).2 1 _ rfl)
        have HH := hide (fun z => HHx.out K (L5.grewTo W1 z) (HX1.out.below (L5.grewTo_below W1 z)))
        rw [hh] at HH
        have HG1 := hide (fun z => HG.out.below (L5.grewTo_below W1 z))
        clear hh HG X1 Y1 HV1 HX1
        refine L5.region_grew (by kernel_rfl) (by kernel_rfl) ?_
        repeat (go_big_quiet_step ((go_at_call 19; exact L5.calls_grew_same (HH.out _))))
        refine wpQuiet_nil ?_
        rintro _ ⟨z, rfl⟩
        go_wp2_with fail
        go_roundw
        case rel => exact ⟨K + 1, by omega, by go_num, hide (by rw [HE0.out]; exact HG1.out z)⟩
        case measure => simp [intOf]; omega
      | false =>
        obtain ⟨r, HRr⟩ : ∃ r, Hid (hasL (nextF f K) x.1 = r) := ⟨_, hide rfl⟩
        have CH : ∀ w, Below W1.heap.size W1 w → Calls Tryz.prog 19 #[.slice bo nb bc, .int .i64 (K : Int)] w fun e w' => e = .returned (.bool false) ∧ Below w.heap.size w w' := fun w b => (HHx.out K w (HX1.out.below b)).mono fun e w' ⟨he, hw⟩ => ⟨by rw [he, hh], by rw [hw]; exact Below.refl _ _⟩
        have CN : ∀ w, Below W1.heap.size W1 w → Calls Tryz.prog 20 #[(.agg #[.string nm, .slice lp lps cp, .int .i64 rt, .slice lb lbs cb, .int .i64 pl]), .int .i64 (K : Int)] w fun e w' => ∃ v, e = .returned v ∧ Below w.heap.size w w' ∧ IntsV w' (nextF f K) v := fun w b => (HN.out _ K w (HV1.out.below b) hkt).mono fun e w' ⟨u, he, hu, hb⟩ => ⟨u, he, hb, ints_of hu⟩
        have CH2 : ∀ w (p : Value), IntsV w (nextF f K) p → Calls Tryz.prog 19 #[p, .int .i64 xh] w fun e w' => e = .returned (.bool r) ∧ Below w.heap.size w w' := fun w p hp => by
          obtain ⟨po, pc, rfl, p1, p2, p3⟩ := hp
          refine (rhas_any (nextF f K) xh po pc w p1 (Nat.le_trans p2 p3)).mono fun e w' ⟨he, hw⟩ => ⟨?_, by rw [hw]; exact Below.refl _ _⟩
          rw [he, ← hxh, HRr.out]
        have xs := fun (w : World) (b : Below W1.heap.size W1 w) => And.intro ((X1.out.below b).2 0 _ rfl) (And.intro ((X1.out.below b).2 1 _ rfl) (And.intro ((X1.out.below b).2 2 _ rfl) (And.intro ((X1.out.below b).2 3 _ rfl) ((X1.out.below b).2 4 _ rfl))))
        have ys := fun (w : World) (b : Below W1.heap.size W1 w) => And.intro ((Y1.out.below b).2 0 _ rfl) (And.intro ((Y1.out.below b).2 1 _ rfl) (And.intro ((Y1.out.below b).2 2 _ rfl) ((Y1.out.below b).2 3 _ rfl)))
        refine Mix.wp_region_mix (enUp (.agg #[.string nm, .slice lp lps cp, .int .i64 rt, .slice lb lbs cb, .int .i64 pl]) f (.slice bo nb bc) xh q2 K r) (by kernel_rfl) (by kernel_rfl) ?_
        refine Mix.mix_step rfl (valid_eq (.pointer (some ⟨q2, 1, none⟩)) rfl) ?_ ?_
        · intro w b k
          clear k
          simp [go_sem]
          exact ⟨Below.refl _ _, fun d hd => by cases hd; rfl⟩
        rintro v ⟨_, _, h⟩
        obtain rfl : v = (.pointer (some ⟨q2, 1, none⟩)) := h _ rfl
        clear h
        simp only [Act.put, List.setIfInBounds_toArray, List.set_cons_succ, List.set_cons_zero]
        refine Mix.mix_step rfl (valid_eq (.slice bo nb bc) rfl) ?_ ?_
        · intro w b k
          obtain ⟨y0, y1, y2, y3⟩ := ys w b
          clear k
          simp [go_sem, y1]
          exact ⟨Below.refl _ _, fun d hd => by cases hd; rfl⟩
        rintro v ⟨_, _, h⟩
        obtain rfl : v = (.slice bo nb bc) := h _ rfl
        clear h
        simp only [Act.put, List.setIfInBounds_toArray, List.set_cons_succ, List.set_cons_zero]
        refine Mix.mix_step rfl (valid_eq (.int .i64 (K : Int)) rfl) ?_ ?_
        · intro w b k
          clear k
          simp [go_sem]
          exact ⟨Below.refl _ _, fun d hd => by cases hd; rfl⟩
        rintro v ⟨_, _, h⟩
        obtain rfl : v = (.int .i64 (K : Int)) := h _ rfl
        clear h
        simp only [Act.put, List.setIfInBounds_toArray, List.set_cons_succ, List.set_cons_zero]
        refine Mix.mix_step rfl (valid_eq (.bool false) rfl) ?_ ?_
        · intro w b k
          clear k
          simp [go_sem]
          exact Calls.mono (CH w b) fun e w' ⟨he, hb⟩ => ⟨_, he, hb, fun d hd => by cases hd; rfl⟩
        rintro v ⟨_, _, h⟩
        obtain rfl : v = (.bool false) := h _ rfl
        clear h
        simp only [Act.put, List.setIfInBounds_toArray, List.set_cons_succ, List.set_cons_zero]
        refine Mix.mix_step rfl (valid_eq (.bool true) rfl) ?_ ?_
        · intro w b k
          clear k
          simp [go_sem]
          exact ⟨Below.refl _ _, fun d hd => by cases hd; rfl⟩
        rintro v ⟨_, _, h⟩
        obtain rfl : v = (.bool true) := h _ rfl
        clear h
        simp only [Act.put, List.setIfInBounds_toArray, List.set_cons_succ, List.set_cons_zero]
        refine Mix.mix_step rfl (valid_eq (.bool true) rfl) ?_ ?_
        · intro w b k
          clear k
          simp [go_sem]
          exact ⟨Below.refl _ _, fun d hd => by cases hd; rfl⟩
        rintro v ⟨_, _, h⟩
        obtain rfl : v = (.bool true) := h _ rfl
        clear h
        simp only [Act.put, List.setIfInBounds_toArray, List.set_cons_succ, List.set_cons_zero]
        refine Mix.mix_step rfl (valid_eq (.agg #[.string nm, .slice lp lps cp, .int .i64 rt, .slice lb lbs cb, .int .i64 pl]) rfl) ?_ ?_
        · intro w b k
          obtain ⟨x0, x1, x2, x3, x4⟩ := xs w b
          clear k
          simp [go_sem, x0, x1, x2, x3, x4]
          exact ⟨Below.refl _ _, fun d hd => by cases hd; rfl⟩
        rintro v ⟨_, _, h⟩
        obtain rfl : v = (.agg #[.string nm, .slice lp lps cp, .int .i64 rt, .slice lb lbs cb, .int .i64 pl]) := h _ rfl
        clear h
        simp only [Act.put, List.setIfInBounds_toArray, List.set_cons_succ, List.set_cons_zero]
        refine Mix.mix_step rfl (valid_eq (.int .i64 (K : Int)) rfl) ?_ ?_
        · intro w b k
          clear k
          simp [go_sem]
          exact ⟨Below.refl _ _, fun d hd => by cases hd; rfl⟩
        rintro v ⟨_, _, h⟩
        obtain rfl : v = (.int .i64 (K : Int)) := h _ rfl
        clear h
        simp only [Act.put, List.setIfInBounds_toArray, List.set_cons_succ, List.set_cons_zero]
        refine Mix.mix_step rfl (valid_of (CN W1 (Below.refl _ _))) ?_ ?_
        · intro w b k
          clear k
          simp [go_sem]
          exact Calls.mono (CN w b) fun e w' ⟨v, he, hb, hf⟩ => ⟨v, he, hb, fun d hd => by cases hd; exact hf⟩
        rintro p22 -
        simp only [Act.put, List.setIfInBounds_toArray, List.set_cons_succ, List.set_cons_zero]
        refine Mix.mix_step rfl (valid_eq (.pointer (some ⟨q2, 0, none⟩)) rfl) ?_ ?_
        · intro w b k
          clear k
          simp [go_sem]
          exact ⟨Below.refl _ _, fun d hd => by cases hd; rfl⟩
        rintro v ⟨_, _, h⟩
        obtain rfl : v = (.pointer (some ⟨q2, 0, none⟩)) := h _ rfl
        clear h
        simp only [Act.put, List.setIfInBounds_toArray, List.set_cons_succ, List.set_cons_zero]
        refine Mix.mix_step rfl (valid_eq (.int .i64 xh) rfl) ?_ ?_
        · intro w b k
          obtain ⟨y0, y1, y2, y3⟩ := ys w b
          clear k
          simp [go_sem, y0]
          exact ⟨Below.refl _ _, fun d hd => by cases hd; rfl⟩
        rintro v ⟨_, _, h⟩
        obtain rfl : v = (.int .i64 xh) := h _ rfl
        clear h
        simp only [Act.put, List.setIfInBounds_toArray, List.set_cons_succ, List.set_cons_zero]
        refine Mix.mix_step rfl (valid_eq (.bool r) rfl) ?_ ?_
        · intro w b k
          have f1 : IntsV w (nextF f K) p22 := k 22 (by decide +kernel) (by simp [Mix.add]) p22 rfl
          clear k
          simp [go_sem]
          exact Calls.mono (CH2 w p22 f1) fun e w' ⟨he, hb⟩ => ⟨_, he, hb, fun d hd => by cases hd; rfl⟩
        rintro v ⟨_, _, h⟩
        obtain rfl : v = (.bool r) := h _ rfl
        clear h
        simp only [Act.put, List.setIfInBounds_toArray, List.set_cons_succ, List.set_cons_zero]
        refine Mix.mix_step rfl (valid_eq (.bool r) rfl) ?_ ?_
        · intro w b k
          clear k
          simp [go_sem]
          exact ⟨Below.refl _ _, fun d hd => by cases hd; rfl⟩
        rintro v ⟨_, _, h⟩
        obtain rfl : v = (.bool r) := h _ rfl
        clear h
        simp only [Act.put, List.setIfInBounds_toArray, List.set_cons_succ, List.set_cons_zero]
        refine Mix.mix_nil ?_
        intro w4 b4 hk4
        have HG4 := hide (HG.out.below b4)
        have hWs := HG4.out.2.size
        clear CH CN CH2 xs ys b4 hk4 X1 Y1 HV1 HX1 HG
        cases r with
        | true =>
          have HE0 : Hid (entersK f x (K + 1) = entersK f x K ++ [(K : Int)]) := hide (entersK_yes (by rw [hh, HRr.out]; rfl))
          clear hh HRr
          go_wp2_with (at_builtin; refine wpList_append_own _ rfl (.tmp 27) (.tmp 29) 22 rfl W.heap.size 3 i0 _ 1 8 Tryz.underlying22 hi0 hz0 hz1 hz2 rfl (by decide) _ _ _ rfl (HG4.out.1.alloc _) ⟨w4.heap.size, 0, none⟩ 1 1 [.int .i64 K] rfl rfl one_cell one_one (by unfold maxLen; omega) (by omega) (by simp; omega) ?_; intro v2 w2 own2 grow2 _; refine Hid.out ?_)
          have HE : Hid (Grw W (entersK f x (K + 1)) v2 w2) := hide (by rw [HE0.out]; exact HG4.out.step own2 grow2)
          clear own2 grow2
          refine hide ?_
          go_wp2_with fail
          go_roundw
          case rel => exact ⟨K + 1, by omega, by go_num, HE⟩
          case measure => simp [intOf]; omega
        | false =>
          have HE0 : Hid (entersK f x (K + 1) = entersK f x K) := hide (entersK_no (by rw [hh, HRr.out]; rfl))
          clear hh HRr
          go_wp2_with fail
          go_roundw
          case rel => exact ⟨K + 1, by omega, by go_num, hide (by rw [HE0.out]; exact HG4.out)⟩
          case measure => simp [intOf]; omega
    · obtain rfl : lbs = K := by omega
      go_upto_region 7 with fail
      clear x0 x1 x2 x3 x4
      rw [← hW1] at X1 Y1 HG ⊢
      clear hW1
      have HV1 := hide (HV.out.below HG.out.2)
      have HBe : Hid (∀ z, Below W1.heap.size W1 z → Below w0.heap.size w0 z) := hide (fun z b => by
        have h1 := B0.out
        rw [← hq] at h1
        exact below_step (below_step h1 HG.out.2) b)
      by_cases hm : (entersK f x lbs).length = 1
      · obtain ⟨k0, hk0⟩ : ∃ k0, entersK f x lbs = [k0] := List.length_eq_one_iff.1 hm
        obtain ⟨K0, rfl, hK0⟩ := entersK_mem (f := f) (x := x) (K := lbs) (k := k0) (by rw [hk0]; simp)
        have HO := hide (HOne.out K0 hk0)
        obtain ⟨mo', mc', e, msl, _⟩ := HG.out.slice
        injection e with e1 _ e2
        subst e1 e2
        rw [hk0] at msl
        rcases msl with e0 | ⟨eb, eo, rfl, hebl, hec⟩
        · simp at e0
        rw [hm]
        have ces0 := hec 0 _ rfl
        obtain ⟨nn, HNn⟩ : ∃ n, Hid ((nextF f K0).length = n) := ⟨_, hide rfl⟩
        have hnn := HLn.out K0 hK0
        rw [HNn.out] at hnn HO
        have ces := fun (w : World) (b : Below W1.heap.size W1 w) => (b.cell (p := ⟨eb, eo, none⟩) hebl).trans ces0
        have CN : ∀ w, Below W1.heap.size W1 w → Calls Tryz.prog 20 #[(.agg #[.string nm, .slice lp lps cp, .int .i64 rt, .slice lb lbs cb, .int .i64 pl]), .int .i64 (K0 : Int)] w fun e w' => ∃ v, e = .returned v ∧ Below w.heap.size w w' ∧ IntsV w' (nextF f K0) v := fun w b => (HN.out _ K0 w (HV1.out.below b) hK0).mono fun e w' ⟨u, he, hu, hb⟩ => ⟨u, he, hb, ints_of hu⟩
        have xs := fun (w : World) (b : Below W1.heap.size W1 w) => And.intro ((X1.out.below b).2 0 _ rfl) (And.intro ((X1.out.below b).2 1 _ rfl) (And.intro ((X1.out.below b).2 2 _ rfl) (And.intro ((X1.out.below b).2 3 _ rfl) ((X1.out.below b).2 4 _ rfl))))
        clear hm hk0 hec hkl
        by_cases hn1 : nn = 1
        · subst hn1
          rw [if_pos rfl] at HO
          refine Mix.wp_region_mix (eoUp (.agg #[.string nm, .slice lp lps cp, .int .i64 rt, .slice lb lbs cb, .int .i64 pl]) f (.slice (some ⟨eb, eo, none⟩) 1 mc) (.pointer (some ⟨eb, eo, none⟩)) K0 1 false) (by kernel_rfl) (by kernel_rfl) ?_
          refine Mix.mix_step rfl (valid_eq (.slice (some ⟨eb, eo, none⟩) 1 mc) rfl) ?_ ?_
          · intro w b k
            clear k
            simp [go_sem]
            exact ⟨Below.refl _ _, fun d hd => by cases hd; rfl⟩
          rintro v ⟨_, _, h⟩
          obtain rfl : v = (.slice (some ⟨eb, eo, none⟩) 1 mc) := h _ rfl
          clear h
          simp only [Act.put, List.setIfInBounds_toArray, List.set_cons_succ, List.set_cons_zero]
          refine Mix.mix_step rfl (valid_eq (.int .i64 1) rfl) ?_ ?_
          · intro w b k
            clear k
            simp [go_sem]
            exact ⟨Below.refl _ _, fun d hd => by cases hd; rfl⟩
          rintro v ⟨_, _, h⟩
          obtain rfl : v = (.int .i64 1) := h _ rfl
          clear h
          simp only [Act.put, List.setIfInBounds_toArray, List.set_cons_succ, List.set_cons_zero]
          refine Mix.mix_step rfl (valid_eq (.bool false) rfl) ?_ ?_
          · intro w b k
            clear k
            simp [go_sem]
            exact ⟨Below.refl _ _, fun d hd => by cases hd; rfl⟩
          rintro v ⟨_, _, h⟩
          obtain rfl : v = (.bool false) := h _ rfl
          clear h
          simp only [Act.put, List.setIfInBounds_toArray, List.set_cons_succ, List.set_cons_zero]
          refine Mix.mix_step rfl (valid_eq (.bool false) rfl) ?_ ?_
          · intro w b k
            clear k
            simp [go_sem]
            exact ⟨Below.refl _ _, fun d hd => by cases hd; rfl⟩
          rintro v ⟨_, _, h⟩
          obtain rfl : v = (.bool false) := h _ rfl
          clear h
          simp only [Act.put, List.setIfInBounds_toArray, List.set_cons_succ, List.set_cons_zero]
          refine Mix.mix_step rfl (valid_eq (.agg #[.string nm, .slice lp lps cp, .int .i64 rt, .slice lb lbs cb, .int .i64 pl]) rfl) ?_ ?_
          · intro w b k
            obtain ⟨x0, x1, x2, x3, x4⟩ := xs w b
            clear k
            simp [go_sem, x0, x1, x2, x3, x4]
            exact ⟨Below.refl _ _, fun d hd => by cases hd; rfl⟩
          rintro v ⟨_, _, h⟩
          obtain rfl : v = (.agg #[.string nm, .slice lp lps cp, .int .i64 rt, .slice lb lbs cb, .int .i64 pl]) := h _ rfl
          clear h
          simp only [Act.put, List.setIfInBounds_toArray, List.set_cons_succ, List.set_cons_zero]
          refine Mix.mix_step rfl (valid_eq (.slice (some ⟨eb, eo, none⟩) 1 mc) rfl) ?_ ?_
          · intro w b k
            clear k
            simp [go_sem]
            exact ⟨Below.refl _ _, fun d hd => by cases hd; rfl⟩
          rintro v ⟨_, _, h⟩
          obtain rfl : v = (.slice (some ⟨eb, eo, none⟩) 1 mc) := h _ rfl
          clear h
          simp only [Act.put, List.setIfInBounds_toArray, List.set_cons_succ, List.set_cons_zero]
          refine Mix.mix_step rfl (valid_eq (.pointer (some ⟨eb, eo, none⟩)) rfl) ?_ ?_
          · intro w b k
            clear k
            simp [go_sem]
            exact ⟨Below.refl _ _, fun d hd => by cases hd; rfl⟩
          rintro v ⟨_, _, h⟩
          obtain rfl : v = (.pointer (some ⟨eb, eo, none⟩)) := h _ rfl
          clear h
          simp only [Act.put, List.setIfInBounds_toArray, List.set_cons_succ, List.set_cons_zero]
          refine Mix.mix_step rfl (valid_eq (.int .i64 (K0 : Int)) rfl) ?_ ?_
          · intro w b k
            have ce1 := ces w b
            clear k
            simp [go_sem, ce1]
            exact ⟨Below.refl _ _, fun d hd => by cases hd; rfl⟩
          rintro v ⟨_, _, h⟩
          obtain rfl : v = (.int .i64 (K0 : Int)) := h _ rfl
          clear h
          simp only [Act.put, List.setIfInBounds_toArray, List.set_cons_succ, List.set_cons_zero]
          refine Mix.mix_step rfl (valid_of (CN W1 (Below.refl _ _))) ?_ ?_
          · intro w b k
            clear k
            simp [go_sem]
            exact Calls.mono (CN w b) fun e w' ⟨v, he, hb, hf⟩ => ⟨v, he, hb, fun d hd => by cases hd; exact hf⟩
          rintro p39 -
          simp only [Act.put, List.setIfInBounds_toArray, List.set_cons_succ, List.set_cons_zero]
          refine Mix.mix_step rfl (valid_eq (.int .i64 ((1 : Nat) : Int)) rfl) ?_ ?_
          · intro w b k
            have f1 : IntsV w (nextF f K0) p39 := k 39 (by decide +kernel) (by simp [Mix.add]) p39 rfl
            clear k
            obtain ⟨po, pc, rfl, _⟩ := f1
            rw [HNn.out]
            simp [go_sem]
            exact ⟨Below.refl _ _, fun d hd => by cases hd; rfl⟩
          rintro v ⟨_, _, h⟩
          obtain rfl : v = (.int .i64 ((1 : Nat) : Int)) := h _ rfl
          clear h
          simp only [Act.put, List.setIfInBounds_toArray, List.set_cons_succ, List.set_cons_zero]
          refine Mix.mix_step rfl (valid_eq (.bool false) rfl) ?_ ?_
          · intro w b k
            clear k
            simp [go_sem]
            exact ⟨Below.refl _ _, fun d hd => by cases hd; rfl⟩
          rintro v ⟨_, _, h⟩
          obtain rfl : v = (.bool false) := h _ rfl
          clear h
          simp only [Act.put, List.setIfInBounds_toArray, List.set_cons_succ, List.set_cons_zero]
          refine Mix.mix_step rfl (valid_eq (.bool false) rfl) ?_ ?_
          · intro w b k
            clear k
            simp [go_sem]
            exact ⟨Below.refl _ _, fun d hd => by cases hd; rfl⟩
          rintro v ⟨_, _, h⟩
          obtain rfl : v = (.bool false) := h _ rfl
          clear h
          simp only [Act.put, List.setIfInBounds_toArray, List.set_cons_succ, List.set_cons_zero]
          refine Mix.mix_nil ?_
          intro w4 b4 hk4
          have c4 := ces w4 b4
          have HE := hide (HBe.out w4 b4)
          clear CN xs ces b4 hk4 HBe
          go_wp2_with fail
          go_ret
          exact ⟨by rw [HO.out]; rfl, by have := HE.out; rw [Hw0.out] at this; exact this⟩
        · have hn2 : ((nn : Int) != 1) = true := bne_iff_ne.2 (by omega)
          rw [if_neg hn1] at HO
          refine Mix.wp_region_mix (eoUp (.agg #[.string nm, .slice lp lps cp, .int .i64 rt, .slice lb lbs cb, .int .i64 pl]) f (.slice (some ⟨eb, eo, none⟩) 1 mc) (.pointer (some ⟨eb, eo, none⟩)) K0 nn true) (by kernel_rfl) (by kernel_rfl) ?_
          refine Mix.mix_step rfl (valid_eq (.slice (some ⟨eb, eo, none⟩) 1 mc) rfl) ?_ ?_
          · intro w b k
            clear k
            simp [go_sem]
            exact ⟨Below.refl _ _, fun d hd => by cases hd; rfl⟩
          rintro v ⟨_, _, h⟩
          obtain rfl : v = (.slice (some ⟨eb, eo, none⟩) 1 mc) := h _ rfl
          clear h
          simp only [Act.put, List.setIfInBounds_toArray, List.set_cons_succ, List.set_cons_zero]
          refine Mix.mix_step rfl (valid_eq (.int .i64 1) rfl) ?_ ?_
          · intro w b k
            clear k
            simp [go_sem]
            exact ⟨Below.refl _ _, fun d hd => by cases hd; rfl⟩
          rintro v ⟨_, _, h⟩
          obtain rfl : v = (.int .i64 1) := h _ rfl
          clear h
          simp only [Act.put, List.setIfInBounds_toArray, List.set_cons_succ, List.set_cons_zero]
          refine Mix.mix_step rfl (valid_eq (.bool false) rfl) ?_ ?_
          · intro w b k
            clear k
            simp [go_sem]
            exact ⟨Below.refl _ _, fun d hd => by cases hd; rfl⟩
          rintro v ⟨_, _, h⟩
          obtain rfl : v = (.bool false) := h _ rfl
          clear h
          simp only [Act.put, List.setIfInBounds_toArray, List.set_cons_succ, List.set_cons_zero]
          refine Mix.mix_step rfl (valid_eq (.bool false) rfl) ?_ ?_
          · intro w b k
            clear k
            simp [go_sem]
            exact ⟨Below.refl _ _, fun d hd => by cases hd; rfl⟩
          rintro v ⟨_, _, h⟩
          obtain rfl : v = (.bool false) := h _ rfl
          clear h
          simp only [Act.put, List.setIfInBounds_toArray, List.set_cons_succ, List.set_cons_zero]
          refine Mix.mix_step rfl (valid_eq (.agg #[.string nm, .slice lp lps cp, .int .i64 rt, .slice lb lbs cb, .int .i64 pl]) rfl) ?_ ?_
          · intro w b k
            obtain ⟨x0, x1, x2, x3, x4⟩ := xs w b
            clear k
            simp [go_sem, x0, x1, x2, x3, x4]
            exact ⟨Below.refl _ _, fun d hd => by cases hd; rfl⟩
          rintro v ⟨_, _, h⟩
          obtain rfl : v = (.agg #[.string nm, .slice lp lps cp, .int .i64 rt, .slice lb lbs cb, .int .i64 pl]) := h _ rfl
          clear h
          simp only [Act.put, List.setIfInBounds_toArray, List.set_cons_succ, List.set_cons_zero]
          refine Mix.mix_step rfl (valid_eq (.slice (some ⟨eb, eo, none⟩) 1 mc) rfl) ?_ ?_
          · intro w b k
            clear k
            simp [go_sem]
            exact ⟨Below.refl _ _, fun d hd => by cases hd; rfl⟩
          rintro v ⟨_, _, h⟩
          obtain rfl : v = (.slice (some ⟨eb, eo, none⟩) 1 mc) := h _ rfl
          clear h
          simp only [Act.put, List.setIfInBounds_toArray, List.set_cons_succ, List.set_cons_zero]
          refine Mix.mix_step rfl (valid_eq (.pointer (some ⟨eb, eo, none⟩)) rfl) ?_ ?_
          · intro w b k
            clear k
            simp [go_sem]
            exact ⟨Below.refl _ _, fun d hd => by cases hd; rfl⟩
          rintro v ⟨_, _, h⟩
          obtain rfl : v = (.pointer (some ⟨eb, eo, none⟩)) := h _ rfl
          clear h
          simp only [Act.put, List.setIfInBounds_toArray, List.set_cons_succ, List.set_cons_zero]
          refine Mix.mix_step rfl (valid_eq (.int .i64 (K0 : Int)) rfl) ?_ ?_
          · intro w b k
            have ce1 := ces w b
            clear k
            simp [go_sem, ce1]
            exact ⟨Below.refl _ _, fun d hd => by cases hd; rfl⟩
          rintro v ⟨_, _, h⟩
          obtain rfl : v = (.int .i64 (K0 : Int)) := h _ rfl
          clear h
          simp only [Act.put, List.setIfInBounds_toArray, List.set_cons_succ, List.set_cons_zero]
          refine Mix.mix_step rfl (valid_of (CN W1 (Below.refl _ _))) ?_ ?_
          · intro w b k
            clear k
            simp [go_sem]
            exact Calls.mono (CN w b) fun e w' ⟨v, he, hb, hf⟩ => ⟨v, he, hb, fun d hd => by cases hd; exact hf⟩
          rintro p39 -
          simp only [Act.put, List.setIfInBounds_toArray, List.set_cons_succ, List.set_cons_zero]
          refine Mix.mix_step rfl (valid_eq (.int .i64 (nn : Int)) rfl) ?_ ?_
          · intro w b k
            have f1 : IntsV w (nextF f K0) p39 := k 39 (by decide +kernel) (by simp [Mix.add]) p39 rfl
            clear k
            obtain ⟨po, pc, rfl, _⟩ := f1
            rw [HNn.out]
            simp [go_sem]
            exact ⟨Below.refl _ _, fun d hd => by cases hd; rfl⟩
          rintro v ⟨_, _, h⟩
          obtain rfl : v = (.int .i64 (nn : Int)) := h _ rfl
          clear h
          simp only [Act.put, List.setIfInBounds_toArray, List.set_cons_succ, List.set_cons_zero]
          refine Mix.mix_step rfl (valid_eq (.bool true) rfl) ?_ ?_
          · intro w b k
            clear k
            simp [go_sem, hn2]
            exact ⟨Below.refl _ _, fun d hd => by cases hd; rfl⟩
          rintro v ⟨_, _, h⟩
          obtain rfl : v = (.bool true) := h _ rfl
          clear h
          simp only [Act.put, List.setIfInBounds_toArray, List.set_cons_succ, List.set_cons_zero]
          refine Mix.mix_step rfl (valid_eq (.bool true) rfl) ?_ ?_
          · intro w b k
            clear k
            simp [go_sem]
            exact ⟨Below.refl _ _, fun d hd => by cases hd; rfl⟩
          rintro v ⟨_, _, h⟩
          obtain rfl : v = (.bool true) := h _ rfl
          clear h
          simp only [Act.put, List.setIfInBounds_toArray, List.set_cons_succ, List.set_cons_zero]
          refine Mix.mix_nil ?_
          intro w4 b4 hk4
          have HE := hide (HBe.out w4 b4)
          clear CN xs ces b4 hk4 HBe
          go_wp2_with fail
          go_ret
          exact ⟨by rw [HO.out]; rfl, by have := HE.out; rw [Hw0.out] at this; exact this⟩
      · have HO := hide (HMany.out hm)
        have hm2 : ((((entersK f x lbs).length : Nat) : Int) != 1) = true := bne_iff_ne.2 (by omega)
        have HE := hide (fun z => HBe.out _ (L5.grewTo_below W1 z))
        clear HBe
        refine L5.region_grew (by kernel_rfl) (by kernel_rfl) ?_
        repeat (go_big_quiet_step (fail))
        refine wpQuiet_nil ?_
        rintro _ ⟨z, rfl⟩
        go_wp2_with fail
        go_ret
        exact ⟨by rw [HO.out]; rfl, by have := HE.out z; rw [Hw0.out] at this; exact this⟩
end Go.Proofs.YtmiplohoclckcaaGreat
