/- Layer 10: the law LoopsTells. Layer 10, mathematics: a loop's blocks, gathered against the edges. Layer 10, mathematics of the program: searching a rising list; the edges of a function, and the one by which a loop is entered; putting each loop where it belongs. -/
import Derived.Test.YtmiplohoclckcaaGreatLtAI
import Derived.Test.YtmiplohoclckcaaGreatLtAO
import Derived.Test.YtmiplohoclckcaaGreatLtBC
import Derived.Test.YtmiplohoclckcaaGreatLtBD
import Derived.Test.YtmiplohoclckcaaGreatLtBE
import Derived.BigQuiet
namespace Go.Proofs.YtmiplohoclckcaaGreat
open Go Go.RowKit
open G (Tok Er Ins Fun)
open Mix (Up)
def Up.loops (l : List Lp) : Up := ⟨fun v w => LoopsV w l v, fun _ _ _ b h => h.below b⟩
def tlUp (fv : Value) (l : List Lp) (t : Tmp) : Up := match t with
  | 12 | 14 => Up.eq fv
  | 13 | 15 | 5 | 6 => Up.loops l
  | _ => Up.any
set_option maxHeartbeats 8000000 in
set_option maxRecDepth 20000 in
theorem lawTells10 {G : World → Prop} (D : Lps G) (f : Fun) (k : Int) (v : Value) (w : World) (hv : FunV w f v) (hg : GyF f) (hG : G w) (hk : R64 k) :
    Calls Tryz.prog 3 #[v, .int .i64 k] w fun e w' => e = .returned (.bool true) ∧ Below w.heap.size w w' := by
  have hv2 := hv
  obtain ⟨vp, vb, rfl, _, _⟩ := hv2
  have b0 := below_box w (.cells #[.string (bs f.1), vp, .int .i64 f.2.2.1, vb, .int .i64 f.2.2.2.2] 25)
  have X0 := hide (L5.Box.new w [.string (bs f.1), vp, .int .i64 f.2.2.1, vb, .int .i64 f.2.2.2.2] 25)
  have HV := hide (hv.below b0)
  have B0 := hide b0
  have HG := hide hg
  have HGw := hide (D.gb hG b0)
  have HD := hide D
  have HWk := hide (fun w (h : G w) => works10_any D w h)
  clear b0 hv hg hG D
  obtain ⟨lp, cp, rfl⟩ : ∃ ao c, vp = .slice ao f.2.1.length c := by
    obtain ⟨vp', vb', e, ⟨ao, c, e2, _⟩, _⟩ := HV.out
    injection e with e
    have e1 := congrArg (fun a => a[1]?) e
    simp at e1
    exact ⟨ao, c, by rw [e1, e2]⟩
  obtain ⟨lb, cb, rfl⟩ : ∃ ao c, vb = .slice ao f.2.2.2.1.length c := by
    obtain ⟨vp', vb', e, _, ⟨ao, c, e2, _⟩⟩ := HV.out
    injection e with e
    have e1 := congrArg (fun a => a[3]?) e
    simp at e1
    exact ⟨ao, c, by rw [e1, e2]⟩
  have HLt := hide (light9_any f _ _ HV.out HG.out)
  have HLl : Hid (Lgt9 f → 0 < f.2.2.2.1.length ∧ f.2.2.2.1.length ≤ 10 ∧ (loopsF f).length ≤ 10) := hide (fun h => ⟨lgt_pos h.1, h.2, Nat.le_trans (loopsF_len f) h.2⟩)
  generalize bs f.1 = nm at *
  generalize f.2.1.length = lps at *
  generalize f.2.2.1 = rt at *
  obtain ⟨lbs, hlbs⟩ : ∃ n, n = f.2.2.2.1.length := ⟨_, rfl⟩
  rw [← hlbs] at X0 HV B0 HGw HLt HLl ⊢
  have HLb := hide hlbs
  clear hlbs
  generalize f.2.2.2.2 = pl at *
  go_enter Tryz.func3, Tryz.ntmps3
  go_upto_region 1 with fail
  show Code.wp _ _ _ _ (w.alloc (.cells #[.string nm, .slice lp lps cp, .int .i64 rt, .slice lb lbs cb, .int .i64 pl] 25))
  replace X0 : Hid (L5.Box (w.alloc (.cells #[.string nm, .slice lp lps cp, .int .i64 rt, .slice lb lbs cb, .int .i64 pl] 25)) w.heap.size [.string nm, .slice lp lps cp, .int .i64 rt, .slice lb lbs cb, .int .i64 pl]) := X0
  generalize w.alloc (.cells #[.string nm, .slice lp lps cp, .int .i64 rt, .slice lb lbs cb, .int .i64 pl] 25) = W at *
  obtain ⟨x0, x1, x2, x3, x4⟩ : _ ∧ _ ∧ _ ∧ _ ∧ _ := ⟨X0.out.2 0 _ rfl, X0.out.2 1 _ rfl, X0.out.2 2 _ rfl, X0.out.2 3 _ rfl, X0.out.2 4 _ rfl⟩
  go_wp2_with fail
  refine HLt.out.mono ?_; rintro e w1 ⟨he, b1⟩
  have B1 := hide b1
  clear x0 x1 x2 x3 x4 HLt b1
  rcases he with rfl | ⟨rfl, hl⟩
  · have HW2 := hide (HWk.out w1 (HD.out.gb HGw.out B1.out))
    go_wp2_with fail
    refine HW2.out.mono ?_; rintro e w3 ⟨rfl, b3⟩
    have HE := hide (below_step B0.out (below_step B1.out b3))
    clear b3
    go_wp2_with fail
    go_ret
    exact ⟨rfl, HE.out⟩
  obtain ⟨hn0, hn1, hll⟩ := HLl.out hl
  have HLg := hide hl
  clear hl HLl HG
  have HV1 := hide (HV.out.below B1.out)
  have X1 := hide (X0.out.below B1.out)
  have GW : ∀ w, Below w1.heap.size w1 w → G w := fun w b => HD.out.gb HGw.out (below_step B1.out b)
  have CO : ∀ w, Below w1.heap.size w1 w → Calls Tryz.prog 8 #[(.agg #[.string nm, .slice lp lps cp, .int .i64 rt, .slice lb lbs cb, .int .i64 pl])] w fun e w' => ∃ v, e = .returned v ∧ Below w.heap.size w w' ∧ LoopsV w' (loopsF f) v := fun w b => (HD.out.of f _ w (GW w b) (HV1.out.below b) HLg.out).mono fun e w' ⟨u, he, hu, hb⟩ => ⟨u, he, hb, hu⟩
  have CR : ∀ w, Below w1.heap.size w1 w → Calls Tryz.prog 9 #[(.agg #[.string nm, .slice lp lps cp, .int .i64 rt, .slice lb lbs cb, .int .i64 pl])] w fun e w' => ∃ v, e = .returned v ∧ Below w.heap.size w w' ∧ LoopsV w' (loopsF f) v := fun w b => (rof_any f _ w (HV1.out.below b) (lgt_ful HLg.out.1) (lgt_tos HLg.out.1) (lgt_pos HLg.out.1)).mono fun e w' ⟨u, he, hu, hb⟩ => ⟨u, he, hb, hu.read⟩
  have xs := fun (w : World) (b : Below w1.heap.size w1 w) => And.intro ((X1.out.below b).2 0 _ rfl) (And.intro ((X1.out.below b).2 1 _ rfl) (And.intro ((X1.out.below b).2 2 _ rfl) (And.intro ((X1.out.below b).2 3 _ rfl) ((X1.out.below b).2 4 _ rfl))))
  go_upto_region 3 with fail
  refine Mix.wp_region_mix (tlUp (.agg #[.string nm, .slice lp lps cp, .int .i64 rt, .slice lb lbs cb, .int .i64 pl]) (loopsF f)) (by kernel_rfl) (by kernel_rfl) ?_
  refine Mix.mix_step rfl (valid_eq (.agg #[.string nm, .slice lp lps cp, .int .i64 rt, .slice lb lbs cb, .int .i64 pl]) rfl) ?_ ?_
  · intro w b k
    obtain ⟨x0, x1, x2, x3, x4⟩ := xs w b
    clear k
    simp [go_sem, x0, x1, x2, x3, x4]
    exact ⟨Below.refl _ _, fun d hd => by cases hd; rfl⟩
  rintro v ⟨_, _, h⟩
  obtain rfl : v = (.agg #[.string nm, .slice lp lps cp, .int .i64 rt, .slice lb lbs cb, .int .i64 pl]) := h _ rfl
  clear h
  simp only [Act.put, List.setIfInBounds_toArray, List.set_cons_succ, List.set_cons_zero]
  refine Mix.mix_step rfl (valid_of (CO w1 (Below.refl _ _))) ?_ ?_
  · intro w b k
    clear k
    simp [go_sem]
    exact Calls.mono (CO w b) fun e w' ⟨v, he, hb, hf⟩ => ⟨v, he, hb, fun d hd => by cases hd; exact hf⟩
  rintro p13 -
  simp only [Act.put, List.setIfInBounds_toArray, List.set_cons_succ, List.set_cons_zero]
  refine Mix.mix_step rfl (valid_eq (.agg #[.string nm, .slice lp lps cp, .int .i64 rt, .slice lb lbs cb, .int .i64 pl]) rfl) ?_ ?_
  · intro w b k
    obtain ⟨x0, x1, x2, x3, x4⟩ := xs w b
    clear k
    simp [go_sem, x0, x1, x2, x3, x4]
    exact ⟨Below.refl _ _, fun d hd => by cases hd; rfl⟩
  rintro v ⟨_, _, h⟩
  obtain rfl : v = (.agg #[.string nm, .slice lp lps cp, .int .i64 rt, .slice lb lbs cb, .int .i64 pl]) := h _ rfl
  clear h
  simp only [Act.put, List.setIfInBounds_toArray, List.set_cons_succ, List.set_cons_zero]
  refine Mix.mix_step rfl (valid_of (CR w1 (Below.refl _ _))) ?_ ?_
  · intro w b k
    clear k
    simp [go_sem]
    exact Calls.mono (CR w b) fun e w' ⟨v, he, hb, hf⟩ => ⟨v, he, hb, fun d hd => by cases hd; exact hf⟩
  rintro p15 -
  simp only [Act.put, List.setIfInBounds_toArray, List.set_cons_succ, List.set_cons_zero]
  refine Mix.mix_step rfl (valid_of (CO w1 (Below.refl _ _))) ?_ ?_
  · intro w b k
    have f : LoopsV w (loopsF f) p13 := k 13 (by decide +kernel) (by simp [Mix.add]) p13 rfl
    clear k
    simp [go_sem]
    exact ⟨Below.refl _ _, fun d hd => by cases hd; exact f⟩
  rintro q5 -
  simp only [Act.put, List.setIfInBounds_toArray, List.set_cons_succ, List.set_cons_zero]
  refine Mix.mix_step rfl (valid_of (CR w1 (Below.refl _ _))) ?_ ?_
  · intro w b k
    have f : LoopsV w (loopsF f) p15 := k 15 (by decide +kernel) (by simp [Mix.add]) p15 rfl
    clear k
    simp [go_sem]
    exact ⟨Below.refl _ _, fun d hd => by cases hd; exact f⟩
  rintro q6 -
  simp only [Act.put, List.setIfInBounds_toArray, List.set_cons_succ, List.set_cons_zero]
  refine Mix.mix_nil ?_
  intro w2 b2 hk2
  have h5 : LoopsV w2 (loopsF f) q5 := hk2 5 (by simp [Mix.add]) q5 rfl
  have h6 : LoopsV w2 (loopsF f) q6 := hk2 6 (by simp [Mix.add]) q6 rfl
  have B2 := hide (below_step B1.out b2)
  clear hk2 CO CR xs GW X1 HV1 B1 b2
  have H5 := hide h5
  have H6 := hide h6
  obtain ⟨oa, oc, rfl, _⟩ := h5
  obtain ⟨ra, rc, rfl, _, _, h63⟩ := h6
  have HC := hide h63
  clear h63
  have hll2 : (loopsF f).length ≤ 1000000 := by omega
  have HGa := hide (fun z (b : Below W.heap.size W z) => HD.out.gb HGw.out b)
  have HDm := hide (depthL_max (loopsF f) k (loopsF f).length)
  obtain ⟨dp, HDp⟩ : ∃ d, Hid (depthL (loopsF f) k (loopsF f).length = d) := ⟨_, hide rfl⟩
  have K1 := hide (same10_any (loopsF f) _ _ w2 H5.out H6.out hll2)
  go_wp2_with fail
  refine K1.out.mono ?_; rintro e w3 ⟨rfl, b3⟩
  replace H6 := hide (H6.out.below b3)
  replace B2 := hide (below_step B2.out b3)
  clear K1 b3 H5
  have K1 := hide (HD.out.depth f k _ w3 (HGa.out _ B2.out) H6.out HLg.out hk)
  rw [HDp.out] at K1
  go_wp2_with fail
  refine K1.out.mono ?_; rintro e w4 ⟨rfl, b3⟩
  replace H6 := hide (H6.out.below b3)
  replace B2 := hide (below_step B2.out b3)
  clear K1 b3
  have K1 := hide (rdepth_any (loopsF f) k hll2 _ w4 H6.out)
  rw [HDp.out] at K1
  go_wp2_with fail
  refine K1.out.mono ?_; rintro e w5 ⟨rfl, rfl⟩
  clear K1
  have K1 := hide (HD.out.inner f _ w5 (HGa.out _ B2.out) H6.out HLg.out)
  have hdd : ((dp : Int) != (dp : Int)) = false := bne_self_eq_false _
  go_wp2_with fail
  refine K1.out.mono ?_; rintro e w6 ⟨u6, rfl, hu6, b3⟩
  replace H6 := hide (H6.out.below b3)
  replace B2 := hide (below_step B2.out b3)
  have U6 := hide hu6
  obtain ⟨so6, sc6, rfl, _⟩ := hu6
  clear K1 b3
  have K1 := hide (rinner_any (loopsF f) _ w6 H6.out hll2)
  go_wp2_with fail
  refine K1.out.mono ?_; rintro e w7 ⟨u7, rfl, hu7⟩
  have b3 := hu7.2
  replace H6 := hide (H6.out.below b3)
  replace B2 := hide (below_step B2.out b3)
  replace U6 := hide (U6.out.below b3)
  have U7 := hide (ints_of hu7.1)
  obtain ⟨so7, sc7, rfl, _⟩ := ints_of hu7.1
  clear K1 b3 hu7
  have K1 := hide (ints_any (innerF (loopsF f)) _ _ w7 U6.out U7.out)
  go_wp2_with fail
  refine K1.out.mono ?_; rintro e w8 ⟨rfl, b3⟩
  replace H6 := hide (H6.out.below b3)
  replace B2 := hide (below_step B2.out b3)
  clear K1 b3 U6 U7
  go_wp2_with fail
  replace HC : Hid (∀ I, I < (loopsF f).length → ∃ g o, ra = some ⟨g, o, none⟩ ∧ LpR w8 (lpN (loopsF f) I) g (o + I * 4)) := hide (fun I hI => by
    obtain ⟨a', c', e, _, _, h3⟩ := H6.out
    injection e with e1 _ _
    subst e1
    exact LoopsV.at h3 hI)
  go_loopw [7] (fun i wr => ∃ I : Nat, I ≤ (loopsF f).length ∧ i = .int .i64 I ∧ Hid (Below w8.heap.size w8 wr)) (fun i _ => (loopsF f).length - (intOf i).toNat)
  case atStart => exact ⟨0, Nat.zero_le _, rfl, hide (Below.refl _ _)⟩
  case round =>
    obtain ⟨I, hI, rfl, HW⟩ := hrel
    by_cases hit : I < (loopsF f).length
    · have hiI : (I : Int) < (loopsF f).length := by omega
      obtain ⟨g, o, rfl, hr⟩ := HC.out I hit
      have hmem : lpN (loopsF f) I ∈ loopsF f := List.mem_of_getElem? (lpN_at hit)
      obtain ⟨vb, vk, hgl, a0, a1, a2, a3, ib, ik⟩ := lp_all hr
      have hB2 := fun x => below_step HW.out (L5.grewTo_below wr x)
      have hB3 := fun x => below_step B2.out (hB2 x)
      have CE := hide (fun x => HD.out.entry f (lpN (loopsF f) I) _ _ (L5.grewTo wr x) (HGa.out _ (hB3 x)) (HV.out.below (hB3 x)) ⟨vb, vk, rfl, ib.below (hB2 x), ik.below (hB2 x)⟩ hmem HLg.out)
      have CF := hide (fun x => rentry_any f (lpN (loopsF f) I) _ _ (L5.grewTo wr x) (HV.out.below (hB3 x)) ⟨vb, vk, rfl, ib.below (hB2 x), ik.below (hB2 x)⟩ (lgt_ful HLg.out.1))
      obtain ⟨vbo, vbc, rfl, _⟩ := id ib
      obtain ⟨vko, vkc, rfl, _⟩ := id ik
      clear ib ik hr hmem
      obtain ⟨en, HEn⟩ : ∃ r, Hid (entryF f (lpN (loopsF f) I) = r) := ⟨_, hide rfl⟩
      rw [HEn.out] at CE CF
      have p0 := fun x => ((hB2 x).cell (p := ⟨g, o + I * 4, none⟩) hgl).trans a0
      have p1 := fun x => ((hB2 x).cell (p := ⟨g, o + I * 4 + 1, none⟩) hgl).trans a1
      have p2 := fun x => ((hB2 x).cell (p := ⟨g, o + I * 4 + 2, none⟩) hgl).trans a2
      have p3 := fun x => ((hB2 x).cell (p := ⟨g, o + I * 4 + 3, none⟩) hgl).trans a3
      have z0 := fun x => ((X0.out.below (hB3 x)).2 0 _ rfl)
      have z1 := fun x => ((X0.out.below (hB3 x)).2 1 _ rfl)
      have z2 := fun x => ((X0.out.below (hB3 x)).2 2 _ rfl)
      have z3 := fun x => ((X0.out.below (hB3 x)).2 3 _ rfl)
      have z4 := fun x => ((X0.out.below (hB3 x)).2 4 _ rfl)
      have hee : (en != en) = false := bne_self_eq_false _
      have HB2 := hide hB2
      clear hB2 hB3 a0 a1 a2 a3 HEn
      generalize (lpN (loopsF f) I).1 = yh at *
      generalize (lpN (loopsF f) I).2.2.2 = yu at *
      generalize (lpN (loopsF f) I).2.1.length = yb at *
      generalize (lpN (loopsF f) I).2.2.1.length = yk at *
      go_wp2_with fail
      refine L5.region_grew (by kernel_rfl) (by kernel_rfl) ?_
      repeat (go_big_quiet_step (first | (go_at_call 16; with_reducible exact L5.calls_grew (CE.out _)) | (go_at_call 17; with_reducible exact L5.calls_grew (CF.out _))))
      refine wpQuiet_nil ?_
      rintro _ ⟨x, rfl⟩
      go_wp2_with fail
      go_roundw
      case rel => exact ⟨I + 1, by omega, by go_num, hide (HB2.out x)⟩
      case measure => simp [intOf]; omega
    · obtain hie : I = (loopsF f).length := by omega
      have hiI : ¬ (I : Int) < (loopsF f).length := by omega
      have HW2 := hide (HWk.out wr (HGa.out _ (below_step B2.out HW.out)))
      go_wp2_with fail
      refine HW2.out.mono ?_; rintro e w9 ⟨rfl, b3⟩
      have HE := hide (below_step B0.out (below_step (below_step B2.out HW.out) b3))
      clear b3 HW2
      go_wp2_with fail
      go_ret
      exact ⟨rfl, HE.out⟩
end Go.Proofs.YtmiplohoclckcaaGreat
namespace Go.Proofs.YtmiplohoclckcaaGreat
open Go Go.RowKit
open G (Tok Er Ins Fun)
theorem predTo_mem {f : Fun} {b : Nat} {K : Nat} {k : Int} : k ∈ predTo f b K ↔ ∃ J : Nat, k = J ∧ J < K ∧ (b : Int) ∈ nextF f J := by
  unfold predTo
  simp only [List.mem_map, List.mem_filter, List.mem_range, hasL_mem]
  constructor
  · rintro ⟨J, ⟨h1, h2⟩, rfl⟩; exact ⟨J, rfl, h1, h2⟩
  · rintro ⟨J, rfl, h1, h2⟩; exact ⟨J, ⟨h1, h2⟩, rfl⟩
theorem predsF_at {f : Fun} {b : Nat} (hb : b < f.2.2.2.1.length) : (predsF f).getD b [] = predTo f b f.2.2.2.1.length := by
  unfold predsF
  simp [List.getD_eq_getElem?_getD, List.getElem?_map, List.getElem?_range hb]
/-- The blocks that go to a head, and of which it stands ahead: just its blocks that go back. -/
theorem backs_preds (f : Fun) (h : Nat) (hh : h < f.2.2.2.1.length) : ((predsF f).getD h []).filter (fun k => aheadB (succsF f) h k) = backsOf f h := by
  rw [predsF_at hh]
  unfold predTo backsOf backsK
  rw [List.filter_map, List.filter_filter]
  congr 1
  apply List.filter_congr
  intro x _
  simp [Bool.and_comm]
theorem rev_iff {ll pp : List (List Int)} {h k : Int} {bs : List Int} (H : ∀ a b : Int, 0 ≤ a → a < ll.length → 0 ≤ b → b < ll.length → (a ∈ pp.getD b.toNat [] ↔ b ∈ ll.getD a.toNat []))
    (hn : ∀ a b : Int, b ∈ ll.getD a.toNat [] → 0 ≤ b ∧ b < ll.length) (pn : ∀ a b : Int, b ∈ pp.getD a.toNat [] → 0 ≤ b ∧ b < ll.length) (hb : ∀ b ∈ bs, 0 ≤ b ∧ b < ll.length) (hk : 0 ≤ k ∧ k < ll.length) :
    Rch pp bs h k ↔ ∃ b ∈ bs, Rch ll [k] h b := by
  constructor
  · intro hr
    have key := Rch.rec' (ll := pp) (frm := bs) (but := h) (Q := fun m => (0 ≤ m ∧ m < ll.length) ∧ ∃ b ∈ bs, Rch ll [m] h b) (fun m hm hne => ⟨hb m hm, m, hm, Rch.start (by simp) hne⟩) (fun b c _ hq hc hne => by
      obtain ⟨hbr, b', hb', hr'⟩ := hq
      have hcr := pn b c hc
      refine ⟨hcr, b', hb', ?_⟩
      have he := (H c b hcr.1 hcr.2 hbr.1 hbr.2).1 hc
      have h1 : Rch ll [c] h b := by
        refine (Rch.start (by simp) hne : Rch ll [c] h c).step he ?_
        have hs : ∀ m, Rch ll [b] h m → b ≠ h := by
          intro m hm
          exact Rch.rec' (Q := fun _ => b ≠ h) (fun m hm hne => by simp at hm; subst hm; exact hne) (fun _ _ _ q _ _ => q) m hm
        exact hs _ hr'
      exact h1.join hr') k hr
    exact key.2
  · rintro ⟨b, hbm, hr⟩
    have hkr := hk
    have key := Rch.rec' (ll := ll) (frm := [k]) (but := h) (Q := fun m => (0 ≤ m ∧ m < ll.length) ∧ (Rch pp bs h m → Rch pp bs h k)) (fun m hm _ => by
      simp at hm
      subst hm
      exact ⟨hkr, id⟩) (fun x c hx hq hc hne => by
      have hcr := hn x c hc
      refine ⟨hcr, fun hcp => hq.2 (hcp.step ?_ hx.ne)⟩
      exact (H x c hq.1.1 hq.1.2 hcr.1 hcr.2).2 hc) b hr
    exact key.2 (Rch.start hbm hr.ne)
end Go.Proofs.YtmiplohoclckcaaGreat
namespace Go.Proofs.YtmiplohoclckcaaGreat
open Go Go.RowKit
open G (Tok Er Ins Fun)
theorem blocksOf_up (f : Fun) (h : Int) : (blocksOf f h).Pairwise (· < ·) := by
  unfold blocksOf blocksK
  refine List.Pairwise.map _ ?_ (List.Pairwise.filter _ List.pairwise_lt_range)
  intro a b hab
  exact Int.ofNat_lt.2 hab
/-- Between which places a number is looked for. -/
def Srch (l : List Int) (k : Int) (i j : Nat) : Prop := i ≤ j ∧ j ≤ l.length ∧ (∀ (m : Nat) (x : Int), m < i → l[m]? = some x → x < k) ∧ ∀ (m : Nat) (x : Int), j ≤ m → l[m]? = some x → k ≤ x
theorem Srch.start (l : List Int) (k : Int) : Srch l k 0 l.length := ⟨Nat.zero_le _, Nat.le_refl _, fun m x h => absurd h (Nat.not_lt_zero _), fun m x h e => by
  rw [List.getElem?_eq_none h] at e; cases e⟩
theorem up_le {l : List Int} (hs : l.Pairwise (· < ·)) {a b : Nat} {x y : Int} (ha : l[a]? = some x) (hb : l[b]? = some y) (h : a ≤ b) : x ≤ y := by
  obtain ⟨ha1, rfl⟩ := List.getElem?_eq_some_iff.1 ha
  obtain ⟨hb1, rfl⟩ := List.getElem?_eq_some_iff.1 hb
  rcases Nat.eq_or_lt_of_le h with rfl | h
  · exact Int.le_refl _
  · exact Int.le_of_lt (List.pairwise_iff_getElem.1 hs a b ha1 hb1 h)
theorem Srch.right {l : List Int} {k : Int} {i j h : Nat} {x : Int} (hs : l.Pairwise (· < ·)) (H : Srch l k i j) (hj : h < j) (hx : l[h]? = some x) (hk : x < k) : Srch l k (h + 1) j :=
  ⟨hj, H.2.1, fun m y hm hy => by have := up_le hs hy hx (by omega); omega, H.2.2.2⟩
theorem Srch.left {l : List Int} {k : Int} {i j h : Nat} {x : Int} (hs : l.Pairwise (· < ·)) (H : Srch l k i j) (hi : i ≤ h) (hj : h < j) (hx : l[h]? = some x) (hk : ¬ x < k) : Srch l k i h :=
  ⟨hi, by have := H.2.1; omega, H.2.2.1, fun m y hm hy => by have := up_le hs hx hy hm; omega⟩
theorem Srch.none {l : List Int} {k : Int} {i : Nat} (H : Srch l k i i) (h : ¬ i < l.length) : hasL l k = false := by
  refine hasL_no.2 fun hm => ?_
  obtain ⟨m, hm⟩ := List.mem_iff_getElem?.1 hm
  have hl := (List.getElem?_eq_some_iff.1 hm).1
  have := H.2.2.1 m k (by omega) hm
  omega
theorem Srch.some {l : List Int} {k : Int} {i : Nat} {x : Int} (hs : l.Pairwise (· < ·)) (H : Srch l k i i) (hx : l[i]? = some x) : hasL l k = decide (x = k) := by
  rw [Bool.eq_iff_iff, hasL_mem, decide_eq_true_eq]
  constructor
  · intro hm
    obtain ⟨m, hm⟩ := List.mem_iff_getElem?.1 hm
    have h1 := H.2.2.2 i x (Nat.le_refl _) hx
    by_cases hmi : m < i
    · have := H.2.2.1 m k hmi hm
      omega
    · have := up_le hs hx hm (by omega)
      omega
  · rintro rfl
    exact List.mem_of_getElem? hx
/-- The edges of the blocks below a number. -/
def edgesK (f : Fun) (K : Nat) : List (Int × Int) := (List.range K).flatMap fun k => (nextF f k).map fun m => ((k : Int), m)
def edgesF (f : Fun) : List (Int × Int) := edgesK f f.2.2.2.1.length
theorem edgesK_succ (f : Fun) (K : Nat) : edgesK f (K + 1) = edgesK f K ++ (nextF f K).map fun m => ((K : Int), m) := by
  unfold edgesK; rw [List.range_succ, List.flatMap_append]; simp
theorem mem_edges {f : Fun} {K : Nat} {e : Int × Int} : e ∈ edgesK f K ↔ ∃ k : Nat, k < K ∧ e.1 = k ∧ e.2 ∈ nextF f k := by
  unfold edgesK
  simp only [List.mem_flatMap, List.mem_range, List.mem_map]
  constructor
  · rintro ⟨k, hk, m, hm, rfl⟩; exact ⟨k, hk, rfl, hm⟩
  · rintro ⟨k, hk, h1, h2⟩; exact ⟨k, hk, e.2, h2, by rw [← h1]⟩
theorem edgesK_len {f : Fun} (hT : Tos f) (K : Nat) : (edgesK f K).length ≤ K * f.2.2.2.1.length := by
  induction K with
  | zero => simp [edgesK]
  | succ K ih =>
    rw [edgesK_succ, List.length_append, List.length_map, Nat.add_mul, Nat.one_mul]
    have := fit_len f.2.2.2.1.length (nextF f K) (once_nodup _) (hT K)
    omega
/-- Does an edge go to a loop's head from without? -/
def entB (x : Lp) (e : Int × Int) : Bool := decide (e.2 = x.1) && !hasL x.2.1 e.1
theorem mem_enters {f : Fun} {x : Lp} {K : Nat} {a : Int} : a ∈ entersK f x K ↔ ∃ e ∈ edgesK f K, entB x e = true ∧ e.1 = a := by
  unfold entersK entB
  simp only [List.mem_map, List.mem_filter, List.mem_range, mem_edges, Bool.and_eq_true, Bool.not_eq_true', decide_eq_true_eq, hasL_mem]
  constructor
  · rintro ⟨k, ⟨h1, h2, h3⟩, rfl⟩
    exact ⟨(Int.ofNat k, x.1), ⟨k, h1, rfl, h3⟩, ⟨rfl, h2⟩, rfl⟩
  · rintro ⟨e, ⟨k, h1, h2, h3⟩, ⟨h4, h5⟩, rfl⟩
    refine ⟨k, ⟨h1, ?_, ?_⟩, h2.symm⟩
    · rw [h2] at h5; exact h5
    · rw [← h4]; exact h3
theorem enters_nodup (f : Fun) (x : Lp) (K : Nat) : (entersK f x K).Nodup := by
  unfold entersK
  refine List.Pairwise.map _ ?_ (List.Pairwise.filter _ (List.nodup_range (n := K)))
  intro a b hab e
  exact hab (Int.ofNat_inj.1 e)
theorem one_of {α : Type} {l : List α} {a : α} (hn : l.Nodup) (ha : a ∈ l) (h : ∀ b ∈ l, b = a) : l = [a] := by
  cases l with
  | nil => simp at ha
  | cons b r =>
    obtain rfl := h b (by simp)
    cases r with
    | nil => rfl
    | cons c r =>
      obtain rfl := h c (by simp)
      simp at hn
theorem len_one {α : Type} {l : List α} {a b : α} (h : l.length = 1) (ha : a ∈ l) (hb : b ∈ l) : a = b := by
  obtain ⟨c, rfl⟩ := List.length_eq_one_iff.1 h
  simp at ha hb
  rw [ha, hb]
theorem entry_no {f : Fun} {x : Lp} (h : ∀ e ∈ edgesF f, entB x e = false) : entryF f x = -1 := by
  refine entryF_many fun hl => ?_
  obtain ⟨a, ha⟩ := List.length_eq_one_iff.1 hl
  obtain ⟨e, he, h2, _⟩ := mem_enters.1 (show a ∈ entersK f x f.2.2.2.1.length by rw [ha]; simp)
  rw [h e he] at h2
  cases h2
theorem entry_bad {f : Fun} {x : Lp} {e0 e : Int × Int} (h0 : e0 ∈ edgesF f) (hb : entB x e0 = true) (he : e ∈ edgesF f) (hne : e ≠ e0) (h : e.1 = e0.1 ∨ entB x e = true) : entryF f x = -1 := by
  by_cases hl : (entersK f x f.2.2.2.1.length).length = 1
  · have h1 : e0.1 ∈ entersK f x f.2.2.2.1.length := mem_enters.2 ⟨e0, h0, hb, rfl⟩
    have h2 : e0.2 = x.1 := by unfold entB at hb; simp at hb; exact hb.1
    have h3 : e.1 = e0.1 := by
      rcases h with h | h
      · exact h
      · exact len_one hl (mem_enters.2 ⟨e, he, h, rfl⟩) h1
    obtain ⟨k, hk, hk1, hk2⟩ := mem_edges.1 h0
    obtain ⟨k', hk', hk1', hk2'⟩ := mem_edges.1 he
    have hkk : k' = k := by
      have h5 := hk1'.symm.trans (h3.trans hk1)
      omega
    subst hkk
    have hone : entersK f x f.2.2.2.1.length = [(k' : Int)] := by
      obtain ⟨c, hc⟩ := List.length_eq_one_iff.1 hl
      rw [hc] at h1
      simp at h1
      rw [hc, ← h1, hk1]
    rw [entryF_one hone, if_neg]
    intro h6
    have h7 := len_one h6 hk2' hk2
    exact hne (Prod.ext h3 h7)
  · exact entryF_many hl
theorem entry_good {f : Fun} {x : Lp} {e0 : Int × Int} (h0 : e0 ∈ edgesF f) (hb : entB x e0 = true) (h : ∀ e ∈ edgesF f, e ≠ e0 → ¬ e.1 = e0.1 ∧ entB x e = false) : entryF f x = e0.1 := by
  obtain ⟨k, hk, hk1, hk2⟩ := mem_edges.1 h0
  have hone : entersK f x f.2.2.2.1.length = [(k : Int)] := by
    rw [← hk1]
    refine one_of (enters_nodup _ _ _) (mem_enters.2 ⟨e0, h0, hb, rfl⟩) fun b hbm => ?_
    obtain ⟨e, he, h1, rfl⟩ := mem_enters.1 hbm
    by_cases hee : e = e0
    · rw [hee]
    · rw [(h e he hee).2] at h1; cases h1
  have hnx : (nextF f k) = [e0.2] := by
    refine one_of (once_nodup _) hk2 fun b hbm => ?_
    refine Classical.byContradiction fun hne => ?_
    have hm : ((k : Int), b) ∈ edgesF f := mem_edges.2 ⟨k, hk, rfl, hbm⟩
    exact (h _ hm (fun e => hne (by rw [← e]))).1 hk1.symm
  rw [entryF_one hone, hnx, if_pos (by simp), hk1]
/-- The loops' numbers, those of the first so many put in order. -/
theorem innerK_up (l : List Lp) : ∀ K, (innerK l K).Pairwise fun a b => nB l a.toNat ≤ nB l b.toNat := by
  intro K
  induction K with
  | zero => exact List.Pairwise.nil
  | succ K ih =>
    rw [innerK_succ]
    have h1 : ∀ a ∈ (innerK l K).take (putAt l K), nB l a.toNat ≤ nB l K := by
      intro a ha
      unfold putAt at ha
      rw [← tw_take] at ha
      have := List.all_eq_true.1 List.all_takeWhile a ha
      simpa using this
    have h2 : ∀ a ∈ (innerK l K).drop (putAt l K), nB l K ≤ nB l a.toNat := by
      intro a ha
      obtain ⟨i, hi⟩ := List.mem_iff_getElem?.1 ha
      rw [List.getElem?_drop] at hi
      have hil := (List.getElem?_eq_some_iff.1 hi).1
      obtain ⟨b, hb⟩ : ∃ b, (innerK l K)[putAt l K]? = some b := ⟨_, List.getElem?_eq_getElem (by omega)⟩
      have hnb : nB l K ≤ nB l b.toNat := by
        refine Classical.byContradiction fun hc => ?_
        have := tw_more (p := fun j : Int => decide (nB l j.toNat ≤ nB l K)) (innerK l K) (putAt l K) b (Nat.le_refl _) hb (by simp; omega)
        unfold putAt at this
        omega
      rcases Nat.eq_zero_or_pos i with rfl | hp
      · rw [Nat.add_zero, hb] at hi
        injection hi with hi
        rw [← hi]; exact hnb
      · obtain ⟨hb1, rfl⟩ := List.getElem?_eq_some_iff.1 hb
        obtain ⟨hi1, rfl⟩ := List.getElem?_eq_some_iff.1 hi
        exact Nat.le_trans hnb (List.pairwise_iff_getElem.1 ih _ _ hb1 hi1 (by omega))
    rw [List.append_assoc, List.pairwise_append]
    refine ⟨ih.sublist (List.take_sublist _ _), ?_, ?_⟩
    · rw [List.singleton_append, List.pairwise_cons]
      refine ⟨fun a ha => ?_, ih.sublist (List.drop_sublist _ _)⟩
      have := h2 a ha
      simpa using this
    · intro a ha b hb
      rw [List.singleton_append, List.mem_cons] at hb
      have ha1 := h1 a ha
      rcases hb with rfl | hb
      · simpa using ha1
      · exact Nat.le_trans ha1 (h2 b hb)
/-- Where a number stands that went down to a place. -/
theorem putAt_eq {l : List Lp} {K J : Nat} (hJ : J ≤ K) (h1 : ∀ b, (innerK l K)[J]? = some b → nB l K < nB l b.toNat) (h2 : ∀ P, J = P + 1 → ∀ b, (innerK l K)[P]? = some b → nB l b.toNat ≤ nB l K) : putAt l K = J := by
  have hlen := innerK_len l K
  have hge : J ≤ putAt l K := by
    cases J with
    | zero => exact Nat.zero_le _
    | succ P =>
      have all : ∀ Q, Q ≤ P + 1 → Q ≤ putAt l K := by
        intro Q
        induction Q with
        | zero => intro _; exact Nat.zero_le _
        | succ Q ih =>
          intro hQ
          obtain ⟨b, hb⟩ : ∃ b, (innerK l K)[Q]? = some b := ⟨_, List.getElem?_eq_getElem (by omega)⟩
          obtain ⟨c, hc⟩ : ∃ c, (innerK l K)[P]? = some c := ⟨_, List.getElem?_eq_getElem (by omega)⟩
          have hbc : nB l b.toNat ≤ nB l c.toNat := by
            rcases Nat.eq_or_lt_of_le (show Q ≤ P by omega) with rfl | hlt
            · rw [hb] at hc; injection hc with hc; rw [hc]; exact Nat.le_refl _
            · obtain ⟨hb1, rfl⟩ := List.getElem?_eq_some_iff.1 hb
              obtain ⟨hc1, rfl⟩ := List.getElem?_eq_some_iff.1 hc
              exact List.pairwise_iff_getElem.1 (innerK_up l K) _ _ hb1 hc1 hlt
          have h3 := h2 P rfl c hc
          exact tw_more (p := fun j : Int => decide (nB l j.toNat ≤ nB l K)) (innerK l K) Q b (ih (by omega)) hb (by simp; omega)
      exact all _ (Nat.le_refl _)
  by_cases hJK : J < K
  · obtain ⟨b, hb⟩ : ∃ b, (innerK l K)[J]? = some b := ⟨_, List.getElem?_eq_getElem (by omega)⟩
    have := h1 b hb
    exact tw_stop (p := fun j : Int => decide (nB l j.toNat ≤ nB l K)) (innerK l K) J b hge hb (by simp; omega)
  · have h9 : putAt l K ≤ (innerK l K).length := tw_le _ _
    omega
/-- The numbers, the next one on its way down to a place. -/
def sinkL (l : List Lp) (K J n : Nat) : List Int := (innerK l K).take J ++ [(K : Int)] ++ (innerK l K).drop J ++ (List.range' (K + 1) (n - K - 1)).map Int.ofNat
def sortL (l : List Lp) (K n : Nat) : List Int := innerK l K ++ (List.range' K (n - K)).map Int.ofNat
theorem sort_sink (l : List Lp) {K n : Nat} (h : K < n) : sortL l K n = sinkL l K K n := by
  unfold sortL sinkL
  have e : n - K = (n - K - 1) + 1 := by omega
  have h1 : (innerK l K).take K = innerK l K := List.take_of_length_le (by rw [innerK_len]; exact Nat.le_refl _)
  have h2 : (innerK l K).drop K = [] := List.drop_of_length_le (by rw [innerK_len]; exact Nat.le_refl _)
  rw [h1, h2, e, List.range'_succ]
  simp
theorem sink_sort (l : List Lp) {K n : Nat} : sinkL l K (putAt l K) n = sortL l (K + 1) n := by
  unfold sinkL sortL
  rw [innerK_succ]
  rfl
theorem sort_zero (l : List Lp) (n : Nat) : sortL l 0 n = (List.range n).map Int.ofNat := by
  unfold sortL; simp [innerK, List.range_eq_range']
theorem sort_one (l : List Lp) {n : Nat} (h : 0 < n) : sortL l 1 n = sortL l 0 n := by
  rw [sort_sink l h]
  have : putAt l 0 = 0 := by unfold putAt; simp [innerK]
  have h2 := sink_sort l (K := 0) (n := n)
  rw [this] at h2
  exact h2.symm
theorem sort_end (l : List Lp) : sortL l l.length l.length = innerF l := by unfold sortL innerF; simp
theorem sink_at (l : List Lp) {K J n : Nat} (hJ : J ≤ K) : (sinkL l K J n)[J]? = some (K : Int) := by
  unfold sinkL
  have e : ((innerK l K).take J).length = J := by rw [List.length_take, innerK_len]; omega
  rw [List.append_assoc, List.append_assoc, List.getElem?_append_right (by omega), e]
  simp
theorem sink_below (l : List Lp) {K J n : Nat} (hJ : J + 1 ≤ K) : (sinkL l K (J + 1) n)[J]? = (innerK l K)[J]? := by
  unfold sinkL
  have e : ((innerK l K).take (J + 1)).length = J + 1 := by rw [List.length_take, innerK_len]; omega
  rw [List.append_assoc, List.append_assoc, List.getElem?_append_left (by omega), List.getElem?_take, if_pos (by omega)]
theorem sink_swap (l : List Lp) {K J n : Nat} {b : Int} (hJ : J + 1 ≤ K) (hb : (innerK l K)[J]? = some b) : ((sinkL l K (J + 1) n).set (J + 1) b).set J (K : Int) = sinkL l K J n := by
  obtain ⟨hj, rfl⟩ := List.getElem?_eq_some_iff.1 hb
  have ht : (innerK l K).take (J + 1) = (innerK l K).take J ++ [(innerK l K)[J]] := (List.take_append_getElem hj).symm
  have hd : (innerK l K).drop J = (innerK l K)[J] :: (innerK l K).drop (J + 1) := List.drop_eq_getElem_cons hj
  have e : ((innerK l K).take J).length = J := by rw [List.length_take, innerK_len]; omega
  unfold sinkL
  rw [hd, ht]
  generalize (innerK l K).take J = A at *
  subst e
  simp
  rw [hd]
  rfl
/-- The blocks gathered against the edges are a loop's. -/
theorem preds_len (f : Fun) : (predsF f).length = f.2.2.2.1.length := by simp [predsF]
theorem preds_num (f : Fun) : ∀ l ∈ predsF f, Num (predsF f).length l := by
  intro l hl m hm
  unfold predsF at hl
  obtain ⟨b, _, rfl⟩ := List.mem_map.1 hl
  obtain ⟨J, rfl, hJ, _⟩ := predTo_mem.1 hm
  rw [preds_len]
  omega
theorem backs_num (f : Fun) (h : Int) : Num f.2.2.2.1.length (backsOf f h) := fun _ hm => ⟨(mem_backs hm).1, (mem_backs hm).2.1⟩
theorem body_bit {f : Fun} (hT : Tos f) (h0 : 0 < f.2.2.2.1.length) {h k : Nat} (hk : k < f.2.2.2.1.length) :
    (hasL (metE (predsF f) (backsOf f h) h) k || decide ((k : Int) = h)) = inL (succsF f) h (backsOf f h) k := by
  have hg := gr_succs hT h0
  rw [Bool.eq_iff_iff, inL_iff hg ⟨by omega, by rw [succsF_len]; omega⟩, Bool.or_eq_true, hasL_mem, decide_eq_true_eq, metE_iff (preds_num f) (by rw [preds_len]; exact backs_num f h)]
  have key := rev_iff (ll := succsF f) (pp := predsF f) (h := (h : Int)) (k := (k : Int)) (bs := backsOf f h) (fun a b a0 a1 b0 b1 => by
      rw [succsF_len] at a1 b1
      obtain ⟨A, rfl⟩ : ∃ A : Nat, a = (A : Int) := ⟨a.toNat, by omega⟩
      obtain ⟨B, rfl⟩ : ∃ B : Nat, b = (B : Int) := ⟨b.toNat, by omega⟩
      have e1 : ((B : Int)).toNat = B := Int.toNat_natCast B
      have e2 : (succsF f).getD (A : Int).toNat [] = nextF f A := next_getD (by omega)
      rw [e1, e2, predsF_at (by omega), predTo_mem]
      constructor
      · rintro ⟨J, hJ, _, h2⟩
        have : J = A := by omega
        subst this
        exact h2
      · intro h2
        exact ⟨A, rfl, by omega, h2⟩)
    (fun a b hb => by
      by_cases ha : a.toNat < f.2.2.2.1.length
      · rw [next_getD ha] at hb
        rw [succsF_len]
        exact hT a.toNat b hb
      · rw [List.getD_eq_getElem?_getD, List.getElem?_eq_none (by rw [succsF_len]; omega)] at hb
        cases hb)
    (fun a b hb => by
      rw [succsF_len]
      by_cases ha : a.toNat < f.2.2.2.1.length
      · rw [predsF_at ha] at hb
        obtain ⟨J, rfl, hJ, _⟩ := predTo_mem.1 hb
        omega
      · rw [List.getD_eq_getElem?_getD, List.getElem?_eq_none (by rw [preds_len]; omega)] at hb
        cases hb)
    (fun b hb => by rw [succsF_len]; exact backs_num f h b hb) ⟨by omega, by rw [succsF_len]; omega⟩
  rw [key]
  constructor
  · rintro (h1 | h1)
    · exact .inr h1
    · exact .inl h1
  · rintro (h1 | h1)
    · exact .inr h1
    · exact .inl h1
/-- The loops whose Up is set for the first so many. -/
def mixU (raw : List Lp) (I : Nat) : List Lp := (List.range raw.length).map fun i => ((lpN raw i).1, (lpN raw i).2.1, (lpN raw i).2.2.1, if i < I then bestK raw i raw.length else 0)
theorem mixU_len (raw : List Lp) (I : Nat) : (mixU raw I).length = raw.length := by simp [mixU]
theorem mixU_at {raw : List Lp} {I k : Nat} (h : k < raw.length) : (mixU raw I)[k]? = some ((lpN raw k).1, (lpN raw k).2.1, (lpN raw k).2.2.1, if k < I then bestK raw k raw.length else 0) := by
  unfold mixU; rw [List.getElem?_map, List.getElem?_range h]; rfl
theorem mixU_lp {raw : List Lp} {I k : Nat} (h : k < raw.length) : lpN (mixU raw I) k = ((lpN raw k).1, (lpN raw k).2.1, (lpN raw k).2.2.1, if k < I then bestK raw k raw.length else 0) := by
  have h1 := lpN_at (l := mixU raw I) (k := k) (by rw [mixU_len]; exact h)
  rw [mixU_at h] at h1
  injection h1 with h1
  exact h1.symm
theorem mixU_end (raw : List Lp) : mixU raw raw.length = upsK raw raw.length := by
  unfold mixU upsK
  apply List.map_congr_left
  intro i hi
  rw [if_pos (by simpa using hi)]
theorem mixU_set {raw : List Lp} {I : Nat} : mixU raw (I + 1) = (mixU raw I).set I ((lpN raw I).1, (lpN raw I).2.1, (lpN raw I).2.2.1, bestK raw I raw.length) := by
  apply List.ext_getElem?
  intro k
  by_cases hk : k < raw.length
  · rw [mixU_at hk, List.getElem?_set]
    by_cases e : I = k
    · subst e
      rw [if_pos (Nat.lt_succ_self I), if_pos rfl, if_pos (by rw [mixU_len]; exact hk)]
    · rw [if_neg e, mixU_at hk]
      by_cases h2 : k < I
      · rw [if_pos h2, if_pos (by omega)]
      · rw [if_neg h2, if_neg (by omega)]
  · rw [List.getElem?_eq_none (by rw [mixU_len]; omega), List.getElem?_eq_none (by rw [List.length_set, mixU_len]; omega)]
theorem mixU_best {raw : List Lp} {I i : Nat} (hi : i < raw.length) : ∀ K, K ≤ raw.length → bestK (mixU raw I) i K = bestK raw i K := by
  have hb : ∀ k, k < raw.length → nB (mixU raw I) k = nB raw k := fun k hk => by unfold nB; rw [mixU_lp hk]
  intro K
  induction K with
  | zero => intro _; rfl
  | succ K ih =>
    intro hK
    have e1 := ih (by omega)
    have e2 : okB (mixU raw I) i K = okB raw i K := by unfold okB; rw [hb i hi, hb K (by omega), mixU_lp hi, mixU_lp (show K < raw.length by omega)]
    have hl := bestK_low raw i K
    rw [bestK, bestK, e1, e2, hb K (by omega)]
    by_cases h0 : bestK raw i K < 0
    · simp [h0]
    · rw [hb (bestK raw i K).toNat (by omega)]
/-- The loops of the heads below a number, as they are first put down. -/
def loopZ (f : Fun) (K : Nat) : List Lp := (loopK f K).map fun x => (x.1, x.2.1, x.2.2.1, 0)
theorem loopZ_yes {f : Fun} {K : Nat} (h : backsOf f K ≠ []) : loopZ f (K + 1) = loopZ f K ++ [((K : Int), blocksOf f K, backsOf f K, 0)] := by
  unfold loopZ; rw [loopK_yes h, List.map_append]; rfl
theorem loopZ_no {f : Fun} {K : Nat} (h : backsOf f K = []) : loopZ f (K + 1) = loopZ f K := by unfold loopZ; rw [loopK_no h]
theorem loopZ_len (f : Fun) (K : Nat) : (loopZ f K).length ≤ K := by unfold loopZ; rw [List.length_map]; exact loopK_len f K
theorem loopZ_end (f : Fun) : loopZ f f.2.2.2.1.length = mixU (rawL f) 0 := by
  unfold loopZ mixU
  apply List.ext_getElem?
  intro k
  rw [List.getElem?_map, List.getElem?_map]
  show _ = _
  by_cases hk : k < (rawL f).length
  · rw [List.getElem?_range hk]
    have := lpN_at hk
    unfold rawL at this ⊢
    rw [this]
    rfl
  · unfold rawL at hk ⊢
    rw [List.getElem?_eq_none (by omega), List.getElem?_eq_none (by simp; omega)]
    rfl
/-- A rising list that is not too long. -/
def Srt (l : List Int) : Prop := l.Pairwise (· < ·) ∧ l.length ≤ 1000000
/-- Each loop's blocks rise. -/
def UpB (l : List Lp) : Prop := ∀ x ∈ l, Srt x.2.1
theorem UpB.at {l : List Lp} (h : UpB l) {k : Nat} (hk : k < l.length) : Srt (lpN l k).2.1 := h _ (List.mem_of_getElem? (lpN_at hk))
theorem srt_blocks {f : Fun} (hN : f.2.2.2.1.length ≤ 1000000) (h : Int) : Srt (blocksOf f h) := ⟨blocksOf_up f h, Nat.le_trans (blocksK_len f h _) hN⟩
theorem upB_loops {f : Fun} (hN : f.2.2.2.1.length ≤ 1000000) : UpB (loopsF f) := by
  intro x hx
  obtain ⟨k, _, _, h2, _⟩ := mem_loops hx
  rw [h2]
  exact srt_blocks hN k
theorem upB_mix {f : Fun} (hN : f.2.2.2.1.length ≤ 1000000) (I : Nat) : UpB (mixU (rawL f) I) := by
  intro x hx
  obtain ⟨k, hk⟩ := List.mem_iff_getElem?.1 hx
  have hkl := (List.getElem?_eq_some_iff.1 hk).1
  rw [mixU_len] at hkl
  rw [mixU_at hkl] at hk
  injection hk with hk
  obtain ⟨j, _, _, h2, _⟩ := mem_raw (List.mem_of_getElem? (lpN_at hkl))
  rw [← hk]
  show Srt (lpN (rawL f) k).2.1
  rw [h2]
  exact srt_blocks hN j
theorem okB_iff (l : List Lp) (i k : Nat) : okB l i k = (decide (nB l i < nB l k) && hasL (lpN l k).2.1 (lpN l i).1) := by
  unfold okB
  by_cases h : nB l i < nB l k
  · have : k ≠ i := by rintro rfl; omega
    simp [h, this]
  · simp [h]
end Go.Proofs.YtmiplohoclckcaaGreat
