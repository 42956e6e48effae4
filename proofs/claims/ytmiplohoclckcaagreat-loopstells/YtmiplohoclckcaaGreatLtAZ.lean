/- Layer 10, the reference: the blocks that go back; whether a block is a loop's. -/
import Derived.Test.YtmiplohoclckcaaGreatLtAN
import Derived.Test.YtmiplohoclckcaaGreatLtAO
import Derived.Test.YtmiplohoclckcaaGreatLtAY
namespace Go.Proofs.YtmiplohoclckcaaGreat
open Go Go.RowKit
open G (Tok Er Ins Fun)
open Mix (Up)
theorem ownI_sl {w : World} {B : Nat} {l : List Int} {u : Value} (h : w.ownsRow B 3 1 u l.length (ints l)) : ∃ ao c, u = .slice ao l.length c ∧ Sl w ao l := by
  obtain ⟨ao, c, e, hs, _, _⟩ := ints_of h
  exact ⟨ao, c, e, hs⟩
set_option maxHeartbeats 2000000 in
set_option maxRecDepth 20000 in
theorem rbacks_any (f : Fun) (h : Int) (v tv : Value) (w : World) (hv : FunV w f v) (ht : TabL w (succsF f) tv) (hF : Ful f) (hg : Gr (succsF f)) :
    Calls Tryz.prog 50 #[v, tv, .int .i64 h] w fun e w' => ∃ u, e = .returned u ∧ Grw w (backsOf f h) u w' := by
  obtain ⟨i0, hi0, hz0, hz1, hz2⟩ := info_parts Tryz.info3
  have hv2 := hv
  obtain ⟨vp, vb, rfl, _, _⟩ := hv2
  have b0 := below_box w (.cells #[.string (bs f.1), vp, .int .i64 f.2.2.1, vb, .int .i64 f.2.2.2.2] 25)
  have X0 := hide (L5.Box.new w [.string (bs f.1), vp, .int .i64 f.2.2.1, vb, .int .i64 f.2.2.2.2] 25)
  have HV := hide (hv.below b0)
  have B0 := hide b0
  have HT := hide (ht.below b0)
  have HN := hide (fun v (K : Nat) w hv hk => next_any f K v w hv hF hk)
  have HLn := hide (fun (K : Nat) (hk : K < f.2.2.2.1.length) => nextF_len hF hk)
  have HA := hide (fun (K : Nat) v w ht => rahead_any (succsF f) h K v w ht hg)
  have hN : f.2.2.2.1.length ≤ 1000000 := hF.1
  clear ht hF hg
  clear b0 hv
  obtain ⟨lp, cp, rfl⟩ : ∃ ao c, vp = .slice ao f.2.1.length c := by
    obtain ⟨vp', vb', e, ⟨ao, c, e2, _⟩, _⟩ := HV.out
    injection e with e
    have e1 := congrArg (fun a => a[1]?) e
    simp at e1
    exact ⟨ao, c, by rw [e1, e2]⟩
  obtain ⟨lb, cb, rfl⟩ : ∃ ao c, vb = .slice ao f.2.2.2.1.length c := by
    obtain ⟨vp', vb', e, _, ⟨ao, c, e2, _⟩⟩ := HV.out
    injection e with e
    have e1 := congrArg (fun a => a[3]?) e
    simp at e1
    exact ⟨ao, c, by rw [e1, e2]⟩
  generalize bs f.1 = nm at *
  generalize f.2.1.length = lps at *
  generalize f.2.2.1 = rt at *
  obtain ⟨lbs, hlbs⟩ : ∃ n, n = f.2.2.2.1.length := ⟨_, rfl⟩
  have HEnd : Hid (backsOf f h = backsK f h lbs) := hide (by rw [hlbs]; rfl)
  rw [← hlbs] at X0 HV B0 hN HN HLn HT ⊢
  clear hlbs
  generalize f.2.2.2.2 = pl at *
  obtain ⟨tb, to, tc, rfl, _, _⟩ := id HT.out
  go_enter Tryz.func50, Tryz.ntmps50
  go_upto_region 1 with fail
  show Code.wp _ _ _ _ (w.alloc (.cells #[.string nm, .slice lp lps cp, .int .i64 rt, .slice lb lbs cb, .int .i64 pl] 25))
  replace X0 : Hid (L5.Box (w.alloc (.cells #[.string nm, .slice lp lps cp, .int .i64 rt, .slice lb lbs cb, .int .i64 pl] 25)) w.heap.size [.string nm, .slice lp lps cp, .int .i64 rt, .slice lb lbs cb, .int .i64 pl]) := X0
  generalize w.alloc (.cells #[.string nm, .slice lp lps cp, .int .i64 rt, .slice lb lbs cb, .int .i64 pl] 25) = W at *
  generalize hq : w.heap.size = q at *
  go_wp2_with fail
  go_loopw [7, 8] (fun nv i wr => ∃ K : Nat, K ≤ lbs ∧ i = .int .i64 K ∧ Hid (Grw W (backsK f h K) nv wr)) (fun _ i _ => lbs - (intOf i).toNat)
  case atStart => exact ⟨0, Nat.zero_le _, rfl, hide (Grw.start _)⟩
  case round =>
    obtain ⟨K, hK, rfl, HG⟩ := hrel
    have hkl := backsK_len f h K
    obtain ⟨mo, mc, rfl, _, _⟩ := HG.out.slice
    have X1 := hide (X0.out.below HG.out.2)
    obtain ⟨x0, x1, x2, x3, x4⟩ : _ ∧ _ ∧ _ ∧ _ ∧ _ := ⟨X1.out.2 0 _ rfl, X1.out.2 1 _ rfl, X1.out.2 2 _ rfl, X1.out.2 3 _ rfl, X1.out.2 4 _ rfl⟩
    by_cases hkt : K < lbs
    · have hkI : (K : Int) < lbs := by omega
      have HNx := hide (HN.out _ K wr (HV.out.below HG.out.2) hkt)
      have hnl := HLn.out K hkt
      go_wp2_with fail
      refine HNx.out.mono ?_; rintro e w1 ⟨u, rfl, hu, b1⟩
      obtain ⟨uo, uc, rfl, hus⟩ := ownI_sl hu
      have HH := hide (rhas_any (nextF f K) h uo uc w1 hus (by unfold maxLen; omega))
      have HG1 := hide (HG.out.below b1)
      have HAh := hide (HA.out K _ w1 (HT.out.below HG1.out.2))
      have hWs := HG1.out.2.size
      clear hu hus b1 HNx x0 x1 x2 x3 x4 X1 HG
      cases hb : hasL (nextF f K) h with
      | true =>
        rw [hb] at HH
        go_wp2_with fail
        refine HH.out.mono ?_; rintro e w2 ⟨rfl, rfl⟩
        clear HH
        cases hb2 : aheadB (succsF f) h K with
        | true =>
          rw [hb2] at HAh
          have HE0 := hide (backsK_yes hb hb2)
          clear hb hb2
          go_wp2_with fail
          refine HAh.out.mono ?_; rintro e w3 ⟨rfl, rfl⟩
          clear HAh
          go_wp2_with (at_builtin; refine wpList_append_own _ rfl (.tmp 27) (.tmp 29) 22 rfl W.heap.size 3 i0 _ 1 8 Tryz.underlying22 hi0 hz0 hz1 hz2 rfl (by decide) _ _ _ rfl (HG1.out.1.alloc _) ⟨w3.heap.size, 0, none⟩ 1 1 [.int .i64 K] rfl rfl one_cell one_one (by unfold maxLen; omega) (by omega) (by simp; omega) ?_; intro v2 w2 own2 grow2 _; refine Hid.out ?_)
          have HE : Hid (Grw W (backsK f h (K + 1)) v2 w2) := hide (by rw [HE0.out]; exact HG1.out.step own2 grow2)
          clear own2 grow2
          refine hide ?_
          go_wp2_with fail
          go_roundw
          case rel => exact ⟨K + 1, by omega, by go_num, HE⟩
          case measure => simp [intOf]; omega
        | false =>
          rw [hb2] at HAh
          have HE : Hid (Grw W (backsK f h (K + 1)) _ w2) := hide (by rw [backsK_no (by rw [hb, hb2]; rfl)]; exact HG1.out)
          clear hb hb2
          go_wp2_with fail
          refine HAh.out.mono ?_; rintro e w3 ⟨rfl, rfl⟩
          clear HAh
          go_wp2_with fail
          go_roundw
          case rel => exact ⟨K + 1, by omega, by go_num, HE⟩
          case measure => simp [intOf]; omega
      | false =>
        rw [hb] at HH
        have HE : Hid (Grw W (backsK f h (K + 1)) _ w1) := hide (by rw [backsK_no (by rw [hb]; rfl)]; exact HG1.out)
        clear hb
        go_wp2_with fail
        refine HH.out.mono ?_; rintro e w2 ⟨rfl, rfl⟩
        clear HH
        go_wp2_with fail
        go_roundw
        case rel => exact ⟨K + 1, by omega, by go_num, HE⟩
        case measure => simp [intOf]; omega
    · obtain rfl : K = lbs := by omega
      have HE : Hid (Grw w (backsOf f h) (.slice mo (backsK f h K).length mc) wr) := hide (by
        have h1 := B0.out
        rw [← hq] at h1
        rw [HEnd.out]
        exact ⟨own_base HG.out.1 h1.size, below_step h1 HG.out.2⟩)
      go_wp2_with fail
      go_ret
      exact ⟨_, rfl, HE.out⟩
theorem one_ints (w : World) (k : Int) : IntsV (w.alloc (.cells #[.int .i64 k] 3)) [k] (.slice (some ⟨w.heap.size, 0, none⟩) 1 1) := ⟨_, 1, rfl, new_sl w [k] 3, Nat.le_refl _, by unfold maxLen; omega⟩
def inUp (fv : Value) (f : Fun) (k h b : Int) (sv pv : Value) (I : Nat) (r : Bool) (t : Tmp) : Up := match t with
  | 19 | 25 => Up.eq (.int .i64 k)
  | 20 | 31 => Up.eq (.int .i64 h)
  | 21 | 22 => Up.eq (.bool true)
  | 23 => Up.eq fv
  | 24 => Up.rows (succsF f)
  | 26 => Up.ints [k]
  | 27 => Up.eq sv
  | 28 => Up.eq (.int .i64 I)
  | 29 => Up.eq pv
  | 30 => Up.eq (.int .i64 b)
  | 32 | 33 => Up.eq (.bool r)
  | _ => Up.any
set_option maxHeartbeats 2000000 in
set_option maxRecDepth 20000 in
theorem rin_any (f : Fun) (h k : Int) (frm : List Int) (v : Value) (fro : Option Addr) (fc : Nat) (w : World) (hv : FunV w f v) (hfr : Sl w fro frm) (hfl : frm.length ≤ 1000000) (hF : Ful f) (hT : Tos f) (h0 : 0 < f.2.2.2.1.length) (hk : 0 ≤ k ∧ k < f.2.2.2.1.length) :
    Calls Tryz.prog 51 #[v, .int .i64 h, .slice fro frm.length fc, .int .i64 k] w fun e w' => e = .returned (.bool (inL (succsF f) h frm k)) ∧ Below w.heap.size w w' := by
  have hv2 := hv
  obtain ⟨vp, vb, rfl, _, _⟩ := hv2
  have b0 := below_box w (.cells #[.string (bs f.1), vp, .int .i64 f.2.2.1, vb, .int .i64 f.2.2.2.2] 25)
  have X0 := hide (L5.Box.new w [.string (bs f.1), vp, .int .i64 f.2.2.1, vb, .int .i64 f.2.2.2.2] 25)
  have HV := hide (hv.below b0)
  have B0 := hide b0
  have HFr := hide (hfr.below b0)
  have HS := hide (fun v w hv => rsuccs_any f v w hv hF)
  have HPt := hide (fun (b : Int) (w : World) (p q : Value) (h1 : RowsV w (succsF f) p) (h2 : IntsV w [k] q) => show Calls Tryz.prog 68 #[p, q, .int .i64 b, .int .i64 h] w fun e w' => e = .returned (.bool (hasL (metE (succsF f) [k] h) b)) ∧ Below w.heap.size w w' from by
    have hg := gr_succs hT h0
    obtain ⟨eo, ec, rfl, e1, _, _⟩ := h1
    obtain ⟨qo, qc, rfl, q1, _, _⟩ := h2
    exact rpath_any (succsF f) [k] b h eo qo ec qc w e1 q1 (by rw [succsF_len]; exact hF.1) (by simp) (fun m hm => by simp at hm; subst hm; rw [succsF_len]; exact hk) hg.1 (fun l hl => by
      obtain ⟨K, hK, rfl⟩ := List.mem_iff_getElem.1 hl
      have hK2 : K < f.2.2.2.1.length := by rw [← succsF_len]; exact hK
      have e := succsF_at hK2
      rw [List.getElem?_eq_getElem hK] at e
      injection e with e
      rw [e]
      exact nextF_len hF hK2))
  clear hfr hF hT h0 hk
  clear b0 hv
  obtain ⟨lp, cp, rfl⟩ : ∃ ao c, vp = .slice ao f.2.1.length c := by
    obtain ⟨vp', vb', e, ⟨ao, c, e2, _⟩, _⟩ := HV.out
    injection e with e
    have e1 := congrArg (fun a => a[1]?) e
    simp at e1
    exact ⟨ao, c, by rw [e1, e2]⟩
  obtain ⟨lb, cb, rfl⟩ : ∃ ao c, vb = .slice ao f.2.2.2.1.length c := by
    obtain ⟨vp', vb', e, _, ⟨ao, c, e2, _⟩⟩ := HV.out
    injection e with e
    have e1 := congrArg (fun a => a[3]?) e
    simp at e1
    exact ⟨ao, c, by rw [e1, e2]⟩
  generalize bs f.1 = nm at *
  generalize f.2.1.length = lps at *
  generalize f.2.2.1 = rt at *
  obtain ⟨lbs, hlbs⟩ : ∃ n, n = f.2.2.2.1.length := ⟨_, rfl⟩
  rw [← hlbs] at X0 HV B0 HFr ⊢
  clear hlbs
  generalize f.2.2.2.2 = pl at *
  obtain ⟨r0, HR0⟩ : ∃ r, Hid (inL (succsF f) h frm k = r) := ⟨_, hide rfl⟩
  rw [HR0.out]
  by_cases hkh : k = h
  · have HE : Hid (r0 = true) := hide (by rw [← HR0.out]; unfold inL; simp [hkh])
    subst hkh
    rw [HE.out]
    have hkk : (k == k) = true := beq_self_eq_true k
    go_enter Tryz.func51, Tryz.ntmps51
    go_upto_region 1 with fail
    show Code.wp _ _ _ _ (w.alloc (.cells #[.string nm, .slice lp lps cp, .int .i64 rt, .slice lb lbs cb, .int .i64 pl] 25))
    replace X0 : Hid (L5.Box (w.alloc (.cells #[.string nm, .slice lp lps cp, .int .i64 rt, .slice lb lbs cb, .int .i64 pl] 25)) w.heap.size [.string nm, .slice lp lps cp, .int .i64 rt, .slice lb lbs cb, .int .i64 pl]) := X0
    generalize w.alloc (.cells #[.string nm, .slice lp lps cp, .int .i64 rt, .slice lb lbs cb, .int .i64 pl] 25) = W at *
    generalize hq : w.heap.size = q at *
    go_wp2_with fail
    go_ret
    exact ⟨rfl, by have := B0.out; rw [← hq] at this; exact this⟩
  · have hne1 : (k != h) = true := bne_iff_ne.2 hkh
    have hne2 : (k == h) = false := beq_eq_false_iff_ne.2 hkh
    have HRi : Hid (r0 = frm.any fun b => hasL (metE (succsF f) [k] h) b) := hide (by rw [← HR0.out]; unfold inL; simp [hkh])
    clear hkh
    go_enter Tryz.func51, Tryz.ntmps51
    go_upto_region 1 with fail
    show Code.wp _ _ _ _ (w.alloc (.cells #[.string nm, .slice lp lps cp, .int .i64 rt, .slice lb lbs cb, .int .i64 pl] 25))
    replace X0 : Hid (L5.Box (w.alloc (.cells #[.string nm, .slice lp lps cp, .int .i64 rt, .slice lb lbs cb, .int .i64 pl] 25)) w.heap.size [.string nm, .slice lp lps cp, .int .i64 rt, .slice lb lbs cb, .int .i64 pl]) := X0
    generalize w.alloc (.cells #[.string nm, .slice lp lps cp, .int .i64 rt, .slice lb lbs cb, .int .i64 pl] 25) = W at *
    generalize hq : w.heap.size = q at *
    go_wp2_with fail
    go_loopw [9] (fun i wr => ∃ I : Nat, I ≤ frm.length ∧ i = .int .i64 I ∧ Hid ((frm.take I).any (fun b => hasL (metE (succsF f) [k] h) b) = false) ∧ Hid (Below W.heap.size W wr)) (fun i _ => frm.length - (intOf i).toNat)
    case atStart => exact ⟨0, Nat.zero_le _, rfl, hide (by simp), hide (Below.refl _ _)⟩
    case round =>
      obtain ⟨I, hI, rfl, HQ, HW⟩ := hrel
      by_cases hit : I < frm.length
      · have hiI : (I : Int) < frm.length := by omega
        obtain ⟨b, hb⟩ : ∃ b, frm[I]? = some b := ⟨_, List.getElem?_eq_getElem hit⟩
        rcases HFr.out with e0 | ⟨fb, fo, rfl, hfbl, hfc⟩
        · subst e0; simp at hit
        have HTk : Hid (frm.take (I + 1) = frm.take I ++ [b]) := hide (take_more hb)
        have X1 := hide (X0.out.below HW.out)
        have HV1 := hide (HV.out.below HW.out)
        have cb0 := (HW.out.cell (p := ⟨fb, fo + I, none⟩) hfbl).trans (hfc I _ hb)
        have hfb1 : fb < wr.heap.size := Nat.lt_of_lt_of_le hfbl HW.out.size
        obtain ⟨r, HRr⟩ : ∃ r, Hid (hasL (metE (succsF f) [k] h) b = r) := ⟨_, hide rfl⟩
        obtain ⟨W1, hW1⟩ : ∃ W1, W1 = wr := ⟨_, rfl⟩
        rw [← hW1] at X1 HV1 cb0 hfb1 HW ⊢
        have hmem : b ∈ frm := List.mem_of_getElem? hb
        have Hmem := hide hmem
        clear hW1 hfc hb hmem
        have CS : ∀ w, Below W1.heap.size W1 w → Calls Tryz.prog 39 #[(.agg #[.string nm, .slice lp lps cp, .int .i64 rt, .slice lb lbs cb, .int .i64 pl])] w fun e w' => ∃ v, e = .returned v ∧ Below w.heap.size w w' ∧ RowsV w' (succsF f) v := fun w b => HS.out _ w (HV1.out.below b)
        have CP : ∀ w (p q : Value), RowsV w (succsF f) p → IntsV w [k] q → Calls Tryz.prog 68 #[p, q, .int .i64 b, .int .i64 h] w fun e w' => e = .returned (.bool r) ∧ Below w.heap.size w w' := fun w p q h1 h2 => by rw [← HRr.out]; exact HPt.out b w p q h1 h2
        have xs := fun (w : World) (b : Below W1.heap.size W1 w) => And.intro ((X1.out.below b).2 0 _ rfl) (And.intro ((X1.out.below b).2 1 _ rfl) (And.intro ((X1.out.below b).2 2 _ rfl) (And.intro ((X1.out.below b).2 3 _ rfl) ((X1.out.below b).2 4 _ rfl))))
        have cbs := fun (w : World) (b0 : Below W1.heap.size W1 w) => (b0.cell (p := ⟨fb, fo + I, none⟩) hfb1).trans cb0
        go_upto_region 6 with fail
        refine Mix.wp_region_mix (inUp (.agg #[.string nm, .slice lp lps cp, .int .i64 rt, .slice lb lbs cb, .int .i64 pl]) f k h b (.slice (some ⟨fb, fo, none⟩) frm.length fc) (.pointer (some ⟨fb, fo + I, none⟩)) I r) (by kernel_rfl) (by kernel_rfl) ?_
        refine Mix.mix_step rfl (valid_eq (.int .i64 k) rfl) ?_ ?_
        · intro w b k
          clear k
          simp [go_sem]
          exact ⟨Below.refl _ _, fun d hd => by cases hd; rfl⟩
        rintro v ⟨_, _, hz9⟩
        obtain rfl : v = (.int .i64 k) := hz9 _ rfl
        clear hz9
        simp only [Act.put, List.setIfInBounds_toArray, List.set_cons_succ, List.set_cons_zero]
        refine Mix.mix_step rfl (valid_eq (.int .i64 h) rfl) ?_ ?_
        · intro w b k
          clear k
          simp [go_sem]
          exact ⟨Below.refl _ _, fun d hd => by cases hd; rfl⟩
        rintro v ⟨_, _, hz9⟩
        obtain rfl : v = (.int .i64 h) := hz9 _ rfl
        clear hz9
        simp only [Act.put, List.setIfInBounds_toArray, List.set_cons_succ, List.set_cons_zero]
        refine Mix.mix_step rfl (valid_eq (.bool true) rfl) ?_ ?_
        · intro w b k
          clear k
          simp [go_sem, hne1]
          exact ⟨Below.refl _ _, fun d hd => by cases hd; rfl⟩
        rintro v ⟨_, _, hz9⟩
        obtain rfl : v = (.bool true) := hz9 _ rfl
        clear hz9
        simp only [Act.put, List.setIfInBounds_toArray, List.set_cons_succ, List.set_cons_zero]
        refine Mix.mix_step rfl (valid_eq (.bool true) rfl) ?_ ?_
        · intro w b k
          clear k
          simp [go_sem]
          exact ⟨Below.refl _ _, fun d hd => by cases hd; rfl⟩
        rintro v ⟨_, _, hz9⟩
        obtain rfl : v = (.bool true) := hz9 _ rfl
        clear hz9
        simp only [Act.put, List.setIfInBounds_toArray, List.set_cons_succ, List.set_cons_zero]
        refine Mix.mix_step rfl (valid_eq (.agg #[.string nm, .slice lp lps cp, .int .i64 rt, .slice lb lbs cb, .int .i64 pl]) rfl) ?_ ?_
        · intro w b k
          obtain ⟨x0, x1, x2, x3, x4⟩ := xs w b
          clear k
          simp [go_sem, x0, x1, x2, x3, x4]
          exact ⟨Below.refl _ _, fun d hd => by cases hd; rfl⟩
        rintro v ⟨_, _, hz9⟩
        obtain rfl : v = (.agg #[.string nm, .slice lp lps cp, .int .i64 rt, .slice lb lbs cb, .int .i64 pl]) := hz9 _ rfl
        clear hz9
        simp only [Act.put, List.setIfInBounds_toArray, List.set_cons_succ, List.set_cons_zero]
        refine Mix.mix_step rfl (valid_of (CS W1 (Below.refl _ _))) ?_ ?_
        · intro w b k
          clear k
          simp [go_sem]
          exact Calls.mono (CS w b) fun e w' ⟨v, he, hb, hf⟩ => ⟨v, he, hb, fun d hd => by cases hd; exact hf⟩
        rintro p24 -
        simp only [Act.put, List.setIfInBounds_toArray, List.set_cons_succ, List.set_cons_zero]
        refine Mix.mix_step rfl (valid_eq (.int .i64 k) rfl) ?_ ?_
        · intro w b k
          clear k
          simp [go_sem]
          exact ⟨Below.refl _ _, fun d hd => by cases hd; rfl⟩
        rintro v ⟨_, _, hz9⟩
        obtain rfl : v = (.int .i64 k) := hz9 _ rfl
        clear hz9
        simp only [Act.put, List.setIfInBounds_toArray, List.set_cons_succ, List.set_cons_zero]
        refine Mix.mix_step rfl ⟨.slice (some ⟨W1.heap.size, 0, none⟩) 1 1, _, below_box W1 (.cells #[.int .i64 k] 3), fun d hd => by cases hd; exact one_ints W1 k⟩ ?_ ?_
        · intro w b k'
          clear k'
          simp [go_sem]
          exact ⟨below_box _ _, fun d hd => by cases hd; exact one_ints w k⟩
        rintro p26 -
        simp only [Act.put, List.setIfInBounds_toArray, List.set_cons_succ, List.set_cons_zero]
        refine Mix.mix_step rfl (valid_eq (.slice (some ⟨fb, fo, none⟩) frm.length fc) rfl) ?_ ?_
        · intro w b k
          clear k
          simp [go_sem]
          exact ⟨Below.refl _ _, fun d hd => by cases hd; rfl⟩
        rintro v ⟨_, _, hz9⟩
        obtain rfl : v = (.slice (some ⟨fb, fo, none⟩) frm.length fc) := hz9 _ rfl
        clear hz9
        simp only [Act.put, List.setIfInBounds_toArray, List.set_cons_succ, List.set_cons_zero]
        refine Mix.mix_step rfl (valid_eq (.int .i64 (I : Int)) rfl) ?_ ?_
        · intro w b k
          clear k
          simp [go_sem]
          exact ⟨Below.refl _ _, fun d hd => by cases hd; rfl⟩
        rintro v ⟨_, _, hz9⟩
        obtain rfl : v = (.int .i64 (I : Int)) := hz9 _ rfl
        clear hz9
        simp only [Act.put, List.setIfInBounds_toArray, List.set_cons_succ, List.set_cons_zero]
        refine Mix.mix_step rfl (valid_eq (.pointer (some ⟨fb, fo + I, none⟩)) rfl) ?_ ?_
        · intro w b k
          clear k
          simp [go_sem, hiI]
          exact ⟨Below.refl _ _, fun d hd => by cases hd; rfl⟩
        rintro v ⟨_, _, hz9⟩
        obtain rfl : v = (.pointer (some ⟨fb, fo + I, none⟩)) := hz9 _ rfl
        clear hz9
        simp only [Act.put, List.setIfInBounds_toArray, List.set_cons_succ, List.set_cons_zero]
        refine Mix.mix_step rfl (valid_eq (.int .i64 b) rfl) ?_ ?_
        · intro w b0 k
          have cb1 := cbs w b0
          clear k
          simp [go_sem, cb1]
          exact ⟨Below.refl _ _, fun d hd => by cases hd; rfl⟩
        rintro v ⟨_, _, hz9⟩
        obtain rfl : v = (.int .i64 b) := hz9 _ rfl
        clear hz9
        simp only [Act.put, List.setIfInBounds_toArray, List.set_cons_succ, List.set_cons_zero]
        refine Mix.mix_step rfl (valid_eq (.int .i64 h) rfl) ?_ ?_
        · intro w b k
          clear k
          simp [go_sem]
          exact ⟨Below.refl _ _, fun d hd => by cases hd; rfl⟩
        rintro v ⟨_, _, hz9⟩
        obtain rfl : v = (.int .i64 h) := hz9 _ rfl
        clear hz9
        simp only [Act.put, List.setIfInBounds_toArray, List.set_cons_succ, List.set_cons_zero]
        refine Mix.mix_step rfl (valid_eq (.bool r) rfl) ?_ ?_
        · intro w b k'
          have f1 : RowsV w (succsF f) p24 := k' 24 (by decide +kernel) (by simp [Mix.add]) p24 rfl
          have f2 : IntsV w [k] p26 := k' 26 (by decide +kernel) (by simp [Mix.add]) p26 rfl
          clear k'
          simp [go_sem]
          exact Calls.mono (CP w p24 p26 f1 f2) fun e w' ⟨he, hb⟩ => ⟨_, he, hb, fun d hd => by cases hd; rfl⟩
        rintro v ⟨_, _, hz9⟩
        obtain rfl : v = (.bool r) := hz9 _ rfl
        clear hz9
        simp only [Act.put, List.setIfInBounds_toArray, List.set_cons_succ, List.set_cons_zero]
        refine Mix.mix_step rfl (valid_eq (.bool r) rfl) ?_ ?_
        · intro w b k
          clear k
          simp [go_sem]
          exact ⟨Below.refl _ _, fun d hd => by cases hd; rfl⟩
        rintro v ⟨_, _, hz9⟩
        obtain rfl : v = (.bool r) := hz9 _ rfl
        clear hz9
        simp only [Act.put, List.setIfInBounds_toArray, List.set_cons_succ, List.set_cons_zero]
        refine Mix.mix_nil ?_
        intro w4 b4 hk4
        have HW4 := hide (below_step HW.out b4)
        clear CS CP xs cbs b4 hk4 X1 HV1 cb0 HW
        cases r with
        | true =>
          have HE : Hid (r0 = true) := hide (by
            rw [HRi.out, List.any_eq_true]
            exact ⟨b, Hmem.out, HRr.out⟩)
          go_wp2_with fail
          go_ret
          exact ⟨by rw [HE.out]; rfl, by have h1 := B0.out; rw [← hq] at h1; have := below_step h1 HW4.out; exact this⟩
        | false =>
          have HE : Hid ((frm.take (I + 1)).any (fun b => hasL (metE (succsF f) [k] h) b) = false) := hide (by rw [HTk.out, List.any_append, HQ.out]; simp [HRr.out])
          go_wp2_with fail
          go_roundw
          case rel => exact ⟨I + 1, by omega, by go_num, HE, HW4⟩
          case measure => simp [intOf]; omega
      · obtain rfl : I = frm.length := by omega
        have HE : Hid (r0 = false) := hide (by have := HQ.out; rw [List.take_length] at this; rw [HRi.out]; exact this)
        go_wp2_with fail
        go_ret
        exact ⟨by rw [HE.out]; rfl, by have h1 := B0.out; rw [← hq] at h1; have := below_step h1 HW.out; exact this⟩
end Go.Proofs.YtmiplohoclckcaaGreat
