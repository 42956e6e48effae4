/- Layer 10: the law LoopsClosed. Layer 10, mathematics: a loop's blocks, gathered against the edges. -/
import Derived.Test.YtmiplohoclckcaaGreatLcAI
import Derived.Test.YtmiplohoclckcaaGreatLcAO
import Derived.Test.YtmiplohoclckcaaGreatLcAZ
namespace Go.Proofs.YtmiplohoclckcaaGreat
open Go Go.RowKit
open G (Tok Er Ins Fun)
open Mix (Up)
theorem closed_loops {f : Fun} (h : Lgt9 f) {I : Nat} (hI : I < (loopsF f).length) {K : Nat} (hK : K < f.2.2.2.1.length) {m : Int} (hm : m ∈ nextF f K) (h1 : hasL (lpN (loopsF f) I).2.1 K = false) (h2 : hasL (lpN (loopsF f) I).2.1 m = true) : m = (lpN (loopsF f) I).1 := by
  obtain ⟨a, _, ea, eab, _, hab⟩ := mem_loops (List.mem_of_getElem? (lpN_at hI))
  rw [eab] at h1 h2
  rw [ea]
  exact closed_edge (lgt_tos h.1) (lgt_pos h.1) (k := (K : Int)) ⟨by omega, by omega⟩ (by simpa using hm) (hasL_no.1 h1) (hasL_mem.1 h2)
theorem head_loops {f : Fun} (h : Lgt9 f) {I : Nat} (hI : I < (loopsF f).length) : hasL (lpN (loopsF f) I).2.1 (lpN (loopsF f) I).1 = true := by
  obtain ⟨a, ha, ea, eab, _, hab⟩ := mem_loops (List.mem_of_getElem? (lpN_at hI))
  rw [eab, ea, hasL_mem]
  exact head_in (lgt_tos h.1) (lgt_pos h.1) ha
theorem ahead_loops {f : Fun} (h : Lgt9 f) {I : Nat} (hI : I < (loopsF f).length) {k : Int} (h1 : hasL (lpN (loopsF f) I).2.1 k = true) (h2 : aheadB (succsF f) k k = true) : aheadB (succsF f) (lpN (loopsF f) I).1 k = true := by
  obtain ⟨a, ha, ea, eab, _, hab⟩ := mem_loops (List.mem_of_getElem? (lpN_at hI))
  rw [eab, hasL_mem] at h1
  rw [ea, ahead_iff h.gr]
  exact head_ahead (lgt_tos h.1) (lgt_pos h.1) hab h1 ((ahead_iff h.gr k k).1 h2).1
set_option maxHeartbeats 8000000 in
set_option maxRecDepth 20000 in
theorem lawClosed10 {G : World → Prop} (D : Lps G) (f : Fun) (v : Value) (w : World) (hv : FunV w f v) (hg : GyF f) (hG : G w) :
    Calls Tryz.prog 4 #[v] w fun e w' => e = .returned (.bool true) ∧ Below w.heap.size w w' := by
  have hv2 := hv
  obtain ⟨vp, vb, rfl, _, _⟩ := hv2
  have b0 := below_box w (.cells #[.string (bs f.1), vp, .int .i64 f.2.2.1, vb, .int .i64 f.2.2.2.2] 25)
  have X0 := hide (L5.Box.new w [.string (bs f.1), vp, .int .i64 f.2.2.1, vb, .int .i64 f.2.2.2.2] 25)
  have HV := hide (hv.below b0)
  have B0 := hide b0
  have HG := hide hg
  have HGw := hide (D.gb hG b0)
  have HD := hide D
  have HWk := hide (fun w (h : G w) => works10_any D w h)
  clear b0 hv hg hG D
  obtain ⟨lp, cp, rfl⟩ : ∃ ao c, vp = .slice ao f.2.1.length c := by
    obtain ⟨vp', vb', e, ⟨ao, c, e2, _⟩, _⟩ := HV.out
    injection e with e
    have e1 := congrArg (fun a => a[1]?) e
    simp at e1
    exact ⟨ao, c, by rw [e1, e2]⟩
  obtain ⟨lb, cb, rfl⟩ : ∃ ao c, vb = .slice ao f.2.2.2.1.length c := by
    obtain ⟨vp', vb', e, _, ⟨ao, c, e2, _⟩⟩ := HV.out
    injection e with e
    have e1 := congrArg (fun a => a[3]?) e
    simp at e1
    exact ⟨ao, c, by rw [e1, e2]⟩
  have HLt := hide (light9_any f _ _ HV.out HG.out)
  have HLl : Hid (Lgt9 f → 0 < f.2.2.2.1.length ∧ f.2.2.2.1.length ≤ 10 ∧ (loopsF f).length ≤ 10) := hide (fun h => ⟨lgt_pos h.1, h.2, Nat.le_trans (loopsF_len f) h.2⟩)
  generalize bs f.1 = nm at *
  generalize f.2.1.length = lps at *
  generalize f.2.2.1 = rt at *
  obtain ⟨lbs, hlbs⟩ : ∃ n, n = f.2.2.2.1.length := ⟨_, rfl⟩
  rw [← hlbs] at X0 HV B0 HGw HLt HLl ⊢
  have HLb := hide hlbs
  clear hlbs
  generalize f.2.2.2.2 = pl at *
  go_enter Tryz.func4, Tryz.ntmps4
  go_upto_region 1 with fail
  show Code.wp _ _ _ _ (w.alloc (.cells #[.string nm, .slice lp lps cp, .int .i64 rt, .slice lb lbs cb, .int .i64 pl] 25))
  replace X0 : Hid (L5.Box (w.alloc (.cells #[.string nm, .slice lp lps cp, .int .i64 rt, .slice lb lbs cb, .int .i64 pl] 25)) w.heap.size [.string nm, .slice lp lps cp, .int .i64 rt, .slice lb lbs cb, .int .i64 pl]) := X0
  generalize w.alloc (.cells #[.string nm, .slice lp lps cp, .int .i64 rt, .slice lb lbs cb, .int .i64 pl] 25) = W at *
  obtain ⟨x0, x1, x2, x3, x4⟩ : _ ∧ _ ∧ _ ∧ _ ∧ _ := ⟨X0.out.2 0 _ rfl, X0.out.2 1 _ rfl, X0.out.2 2 _ rfl, X0.out.2 3 _ rfl, X0.out.2 4 _ rfl⟩
  go_wp2_with fail
  refine HLt.out.mono ?_; rintro e w1 ⟨he, b1⟩
  have B1 := hide b1
  clear x0 x1 x2 x3 x4 HLt b1
  rcases he with rfl | ⟨rfl, hl⟩
  · have HW2 := hide (HWk.out w1 (HD.out.gb HGw.out B1.out))
    go_wp2_with fail
    refine HW2.out.mono ?_; rintro e w3 ⟨rfl, b3⟩
    have HE := hide (below_step B0.out (below_step B1.out b3))
    clear b3
    go_wp2_with fail
    go_ret
    exact ⟨rfl, HE.out⟩
  obtain ⟨hn0, hn1, hll⟩ := HLl.out hl
  have HLg := hide hl
  clear hl HLl HG
  have HV1 := hide (HV.out.below B1.out)
  have HO := hide (HD.out.of f _ w1 (HD.out.gb HGw.out B1.out) HV1.out HLg.out)
  obtain ⟨x0, x1, x2, x3, x4⟩ : _ ∧ _ ∧ _ ∧ _ ∧ _ := ⟨(X0.out.below B1.out).2 0 _ rfl, (X0.out.below B1.out).2 1 _ rfl, (X0.out.below B1.out).2 2 _ rfl, (X0.out.below B1.out).2 3 _ rfl, (X0.out.below B1.out).2 4 _ rfl⟩
  go_wp2_with fail
  refine HO.out.mono ?_; rintro e w2 ⟨lv, rfl, hL, b2⟩
  have B2 := hide (below_step B1.out b2)
  have H3 := hide hL
  obtain ⟨ra, rc, rfl, _⟩ := hL
  clear x0 x1 x2 x3 x4 HO b2 B1
  have HO := hide (rtable_any f _ w2 (HV.out.below B2.out) (lgt_ful HLg.out.1) HLg.out.gr)
  obtain ⟨x0, x1, x2, x3, x4⟩ : _ ∧ _ ∧ _ ∧ _ ∧ _ := ⟨(X0.out.below B2.out).2 0 _ rfl, (X0.out.below B2.out).2 1 _ rfl, (X0.out.below B2.out).2 2 _ rfl, (X0.out.below B2.out).2 3 _ rfl, (X0.out.below B2.out).2 4 _ rfl⟩
  go_wp2_with fail
  refine HO.out.mono ?_; rintro e w8 ⟨tv, rfl, hT, b2⟩
  replace B2 := hide (below_step B2.out b2)
  replace H3 := hide (H3.out.below b2)
  have HT := hide hT
  obtain ⟨tb, to, tc, rfl, _, _⟩ := hT
  clear x0 x1 x2 x3 x4 HO b2 HV1
  have HC : Hid (∀ I, I < (loopsF f).length → ∃ g o, ra = some ⟨g, o, none⟩ ∧ LpR w8 (lpN (loopsF f) I) g (o + I * 4)) := hide (fun I hI => by
    obtain ⟨a', c', e, _, _, h3⟩ := H3.out
    injection e with e1 _ _
    subst e1
    exact LoopsV.at h3 hI)
  have HGa := hide (fun z (b : Below W.heap.size W z) => HD.out.gb HGw.out b)
  have HAh := hide (fun (a b : Int) (z : World) (h : Below w8.heap.size w8 z) => rahead_any (succsF f) a b _ z (HT.out.below h) HLg.out.gr)
  obtain ⟨n, hn⟩ : ∃ n, (loopsF f).length = n := ⟨_, rfl⟩
  have Hn := hide hn
  rw [hn] at hll HC ⊢
  clear hn
  have HNx := hide (fun (K : Nat) (z : World) (b : Below W.heap.size W z) (hk : K < lbs) => next_any f K _ z (HV.out.below b) (lgt_ful HLg.out.1) (by rw [← HLb.out]; exact hk))
  have HNl := hide (fun (K : Nat) (hk : K < lbs) => nextF_len (lgt_ful HLg.out.1) (k := K) (by rw [← HLb.out]; exact hk))
  go_wp2_with fail
  go_loopw [5] (fun i wr => ∃ I : Nat, I ≤ n ∧ i = .int .i64 I ∧ Hid (Below w8.heap.size w8 wr)) (fun i _ => n - (intOf i).toNat)
  case atStart => exact ⟨0, Nat.zero_le _, rfl, hide (Below.refl _ _)⟩
  case round =>
    obtain ⟨I, hI, rfl, HW1⟩ := hrel
    by_cases hit : I < n
    · have hiI : (I : Int) < n := by omega
      obtain ⟨g, o, rfl, hrI⟩ := HC.out I hit
      obtain ⟨vbI, vkI, hgl, a0, a1, _, _, ibI, _⟩ := lp_all hrI
      obtain ⟨bo, bc, rfl, sI, sI1, sI2⟩ := ibI
      have hbl := Nat.le_trans sI1 sI2
      have hif : I < (loopsF f).length := by rw [Hn.out]; exact hit
      have HCl := hide (fun (K : Nat) (hK : K < lbs) (m : Int) (hm : m ∈ nextF f K) h1 h2 => closed_loops HLg.out hif (K := K) (by rw [← HLb.out]; exact hK) hm h1 h2)
      have HHd := hide (head_loops HLg.out hif)
      have HHa := hide (fun (k : Int) h1 h2 => ahead_loops HLg.out hif (k := k) h1 h2)
      have HHI := hide (fun (k : Int) (z : World) (b : Below w8.heap.size w8 z) => rhas_any (lpN (loopsF f) I).2.1 k bo bc z (sI.below b) hbl)
      have HA0 := hide a0
      have HA1 := hide a1
      clear a0 a1 hrI sI sI1 sI2 hif
      generalize (lpN (loopsF f) I).1 = yI at *
      generalize (lpN (loopsF f) I).2.1 = LI at *
      have p0 := fun x => ((below_step HW1.out (L5.grewTo_below wr x)).cell (p := ⟨g, o + I * 4, none⟩) hgl).trans HA0.out
      have p1 := fun x => ((below_step HW1.out (L5.grewTo_below wr x)).cell (p := ⟨g, o + I * 4 + 1, none⟩) hgl).trans HA1.out
      have HB := hide (fun x => below_step HW1.out (L5.grewTo_below wr x))
      have R1 := hide (fun x => HHI.out yI (L5.grewTo wr x) (HB.out x))
      rw [HHd.out] at R1
      go_wp2_with fail
      refine L5.region_grew (by kernel_rfl) (by kernel_rfl) ?_
      repeat (go_big_quiet_step (first | (go_at_call 19; with_reducible exact L5.calls_grew_same (R1.out _))))
      refine wpQuiet_nil ?_
      rintro _ ⟨x, rfl⟩
      replace HW1 := hide (HB.out x)
      clear p0 p1 HB R1 HHd
      go_wp2_with fail
      obtain ⟨w9, hw9⟩ : ∃ w9, w9 = L5.grewTo wr x := ⟨_, rfl⟩
      rw [← hw9] at HW1 ⊢
      clear hw9
      go_loopw [6] (fun k wr => ∃ K : Nat, K ≤ lbs ∧ k = .int .i64 K ∧ Hid (Below w8.heap.size w8 wr)) (fun k _ => lbs - (intOf k).toNat)
      case atStart => exact ⟨0, Nat.zero_le _, rfl, HW1⟩
      case round =>
        obtain ⟨K, hK, rfl, HW2⟩ := hrel
        obtain ⟨x0, x1, x2, x3, x4⟩ : _ ∧ _ ∧ _ ∧ _ ∧ _ := ⟨(X0.out.below (below_step B2.out HW2.out)).2 0 _ rfl, (X0.out.below (below_step B2.out HW2.out)).2 1 _ rfl, (X0.out.below (below_step B2.out HW2.out)).2 2 _ rfl, (X0.out.below (below_step B2.out HW2.out)).2 3 _ rfl, (X0.out.below (below_step B2.out HW2.out)).2 4 _ rfl⟩
        by_cases hkt : K < lbs
        · have hkI : (K : Int) < lbs := by omega
          have HNk := hide (HNx.out K wr (below_step B2.out HW2.out) hkt)
          have hnl := HNl.out K hkt
          have HCk := hide (HCl.out K hkt)
          go_wp2_with fail
          refine HNk.out.mono ?_; rintro e wn ⟨u, rfl, hu, bn⟩
          replace HW2 := hide (below_step HW2.out bn)
          obtain ⟨uo, uc, rfl, hus⟩ := ownI_sl hu
          have HS := hide hus
          clear x0 x1 x2 x3 x4 HNk hu bn hus
          obtain ⟨nx, hnx⟩ : ∃ nx, nextF f K = nx := ⟨_, rfl⟩
          rw [hnx] at HS HCk hnl ⊢
          clear hnx
          go_wp2_with fail
          go_loopw [8] (fun m wr => ∃ m' : Nat, m' ≤ nx.length ∧ m = .int .i64 m' ∧ Hid (Below wn.heap.size wn wr)) (fun m _ => nx.length - (intOf m).toNat)
          case atStart => exact ⟨0, Nat.zero_le _, rfl, hide (Below.refl _ _)⟩
          case round =>
            obtain ⟨m, hm, rfl, HWn⟩ := hrel
            have HW3 := hide (below_step HW2.out HWn.out)
            by_cases hmt : m < nx.length
            · have hmI : (m : Int) < nx.length := by omega
              obtain ⟨t, ht⟩ : ∃ t, nx[m]? = some t := ⟨_, List.getElem?_eq_getElem hmt⟩
              rcases HS.out with e0 | ⟨ub, uo', rfl, hubl, huc⟩
              · subst e0; simp at hmt
              have HBn := hide (fun x => below_step HWn.out (L5.grewTo_below wr x))
              have HB3 := hide (fun x => below_step HW3.out (L5.grewTo_below wr x))
              have p0 := fun x => ((HB3.out x).cell (p := ⟨g, o + I * 4, none⟩) hgl).trans HA0.out
              have p1 := fun x => ((HB3.out x).cell (p := ⟨g, o + I * 4 + 1, none⟩) hgl).trans HA1.out
              have pt := fun x => ((HBn.out x).cell (p := ⟨ub, uo' + m, none⟩) hubl).trans (huc m _ ht)
              have R1 := hide (fun x => HHI.out K (L5.grewTo wr x) (HB3.out x))
              have R2 := hide (fun x => HHI.out t (L5.grewTo wr x) (HB3.out x))
              have HCt := hide (HCk.out t (List.mem_of_getElem? ht))
              have hucm := huc m _ ht
              clear huc ht
              go_wp2_with fail
              obtain ⟨b1, hb1⟩ : ∃ b, hasL LI K = b := ⟨_, rfl⟩
              obtain ⟨b2, hb2⟩ : ∃ b, hasL LI t = b := ⟨_, rfl⟩
              rw [hb1] at R1 HCt
              rw [hb2] at R2 HCt
              refine L5.region_grew (by kernel_rfl) (by kernel_rfl) ?_
              repeat (go_big_quiet_step (first | (go_at_call 19; with_reducible exact L5.calls_grew_same (R1.out _)) | (go_at_call 19; with_reducible exact L5.calls_grew_same (R2.out _))))
              refine wpQuiet_nil ?_
              rintro _ ⟨x, rfl⟩
              clear R1 R2 p0 p1 pt hb1 hb2
              replace HWn := hide (HBn.out x)
              replace HW3 := hide (HB3.out x)
              clear HBn HB3
              generalize L5.grewTo wr x = wz at *
              have HBn := hide (fun x => below_step HWn.out (L5.grewTo_below wz x))
              have HB3 := hide (fun x => below_step HW3.out (L5.grewTo_below wz x))
              have AK := hide (fun x => HAh.out K K (L5.grewTo wz x) (HB3.out x))
              have p0 := fun x => ((HB3.out x).cell (p := ⟨g, o + I * 4, none⟩) hgl).trans HA0.out
              have pt := fun x => ((HBn.out x).cell (p := ⟨ub, uo' + m, none⟩) hubl).trans hucm
              go_wp2_with fail
              obtain ⟨b3, hb3⟩ : ∃ b, aheadB (succsF f) K K = b := ⟨_, rfl⟩
              rw [hb3] at AK
              clear hb3
              cases b3 with
              | false =>
                clear HCt
                refine L5.region_grew (by kernel_rfl) (by kernel_rfl) ?_
                repeat (go_big_quiet_step (first | (go_at_call 21; with_reducible exact L5.calls_grew_same (AK.out _))))
                refine wpQuiet_nil ?_
                rintro _ ⟨x, rfl⟩
                go_wp2_with fail
                go_roundw
                case rel => exact ⟨m + 1, by omega, by go_num, hide (HBn.out x)⟩
                case measure => simp [intOf]; omega
              | true =>
                cases b1 with
                | true =>
                  clear HCt
                  refine L5.region_grew (by kernel_rfl) (by kernel_rfl) ?_
                  repeat (go_big_quiet_step (first | (go_at_call 21; with_reducible exact L5.calls_grew_same (AK.out _))))
                  refine wpQuiet_nil ?_
                  rintro _ ⟨x, rfl⟩
                  go_wp2_with fail
                  go_roundw
                  case rel => exact ⟨m + 1, by omega, by go_num, hide (HBn.out x)⟩
                  case measure => simp [intOf]; omega
                | false =>
                  cases b2 with
                  | false =>
                    clear HCt
                    refine L5.region_grew (by kernel_rfl) (by kernel_rfl) ?_
                    repeat (go_big_quiet_step (first | (go_at_call 21; with_reducible exact L5.calls_grew_same (AK.out _))))
                    refine wpQuiet_nil ?_
                    rintro _ ⟨x, rfl⟩
                    go_wp2_with fail
                    go_roundw
                    case rel => exact ⟨m + 1, by omega, by go_num, hide (HBn.out x)⟩
                    case measure => simp [intOf]; omega
                  | true =>
                    have hte := HCt.out rfl rfl
                    have hne : (t != yI) = false := by rw [hte]; exact bne_self_eq_false _
                    clear HCt hte
                    refine L5.region_grew (by kernel_rfl) (by kernel_rfl) ?_
                    repeat (go_big_quiet_step (first | (go_at_call 21; with_reducible exact L5.calls_grew_same (AK.out _))))
                    refine wpQuiet_nil ?_
                    rintro _ ⟨x, rfl⟩
                    go_wp2_with fail
                    go_roundw
                    case rel => exact ⟨m + 1, by omega, by go_num, hide (HBn.out x)⟩
                    case measure => simp [intOf]; omega
            · have hmI : ¬ (m : Int) < nx.length := by omega
              have c1 := (HW3.out.cell (p := ⟨g, o + I * 4 + 1, none⟩) hgl).trans HA1.out
              have c0 := (HW3.out.cell (p := ⟨g, o + I * 4, none⟩) hgl).trans HA0.out
              have S1 := hide (HHI.out K wr HW3.out)
              have S2 := hide (HAh.out K K wr HW3.out)
              have S3 := hide (HAh.out yI K wr HW3.out)
              cases h1 : hasL LI K with
              | false =>
                rw [h1] at S1
                clear h1
                go_wp2_with fail
                refine S1.out.mono ?_; rintro e wq ⟨rfl, rfl⟩
                clear S1 S2 S3 c0 c1
                go_wp2_with fail
                go_roundw
                case rel => exact ⟨K + 1, by omega, by go_num, HW3⟩
                case measure => simp [intOf]; omega
              | true =>
                rw [h1] at S1
                cases h2 : aheadB (succsF f) K K with
                | false =>
                  rw [h2] at S2
                  clear h1 h2
                  go_wp2_with fail
                  refine S1.out.mono ?_; rintro e wq ⟨rfl, rfl⟩
                  go_wp2_with fail
                  refine S2.out.mono ?_; rintro e wq ⟨rfl, rfl⟩
                  clear S1 S2 S3 c0 c1
                  go_wp2_with fail
                  go_roundw
                  case rel => exact ⟨K + 1, by omega, by go_num, HW3⟩
                  case measure => simp [intOf]; omega
                | true =>
                  rw [h2] at S2
                  rw [HHa.out K h1 h2] at S3
                  clear h1 h2
                  go_wp2_with fail
                  refine S1.out.mono ?_; rintro e wq ⟨rfl, rfl⟩
                  go_wp2_with fail
                  refine S2.out.mono ?_; rintro e wq ⟨rfl, rfl⟩
                  go_wp2_with fail
                  refine S3.out.mono ?_; rintro e wq ⟨rfl, rfl⟩
                  clear S1 S2 S3 c0 c1
                  go_wp2_with fail
                  go_roundw
                  case rel => exact ⟨K + 1, by omega, by go_num, HW3⟩
                  case measure => simp [intOf]; omega
        · have hkI : ¬ (K : Int) < lbs := by omega
          go_wp2_with fail
          go_roundw
          case rel => exact ⟨I + 1, by omega, by go_num, HW2⟩
          case measure => simp [intOf]; omega
    · have hiI : ¬ (I : Int) < n := by omega
      have HW2 := hide (HWk.out wr (HGa.out _ (below_step B2.out HW1.out)))
      go_wp2_with fail
      refine HW2.out.mono ?_; rintro e w9 ⟨rfl, b3⟩
      have HE := hide (below_step B0.out (below_step (below_step B2.out HW1.out) b3))
      clear b3 HW2
      go_wp2_with fail
      go_ret
      exact ⟨rfl, HE.out⟩
end Go.Proofs.YtmiplohoclckcaaGreat
namespace Go.Proofs.YtmiplohoclckcaaGreat
open Go Go.RowKit
open G (Tok Er Ins Fun)
theorem predTo_mem {f : Fun} {b : Nat} {K : Nat} {k : Int} : k ∈ predTo f b K ↔ ∃ J : Nat, k = J ∧ J < K ∧ (b : Int) ∈ nextF f J := by
  unfold predTo
  simp only [List.mem_map, List.mem_filter, List.mem_range, hasL_mem]
  constructor
  · rintro ⟨J, ⟨h1, h2⟩, rfl⟩; exact ⟨J, rfl, h1, h2⟩
  · rintro ⟨J, rfl, h1, h2⟩; exact ⟨J, ⟨h1, h2⟩, rfl⟩
theorem predsF_at {f : Fun} {b : Nat} (hb : b < f.2.2.2.1.length) : (predsF f).getD b [] = predTo f b f.2.2.2.1.length := by
  unfold predsF
  simp [List.getD_eq_getElem?_getD, List.getElem?_map, List.getElem?_range hb]
/-- The blocks that go to a head, and of which it stands ahead: just its blocks that go back. -/
theorem backs_preds (f : Fun) (h : Nat) (hh : h < f.2.2.2.1.length) : ((predsF f).getD h []).filter (fun k => aheadB (succsF f) h k) = backsOf f h := by
  rw [predsF_at hh]
  unfold predTo backsOf backsK
  rw [List.filter_map, List.filter_filter]
  congr 1
  apply List.filter_congr
  intro x _
  simp [Bool.and_comm]
theorem rev_iff {ll pp : List (List Int)} {h k : Int} {bs : List Int} (H : ∀ a b : Int, 0 ≤ a → a < ll.length → 0 ≤ b → b < ll.length → (a ∈ pp.getD b.toNat [] ↔ b ∈ ll.getD a.toNat []))
    (hn : ∀ a b : Int, b ∈ ll.getD a.toNat [] → 0 ≤ b ∧ b < ll.length) (pn : ∀ a b : Int, b ∈ pp.getD a.toNat [] → 0 ≤ b ∧ b < ll.length) (hb : ∀ b ∈ bs, 0 ≤ b ∧ b < ll.length) (hk : 0 ≤ k ∧ k < ll.length) :
    Rch pp bs h k ↔ ∃ b ∈ bs, Rch ll [k] h b := by
  constructor
  · intro hr
    have key := Rch.rec' (ll := pp) (frm := bs) (but := h) (Q := fun m => (0 ≤ m ∧ m < ll.length) ∧ ∃ b ∈ bs, Rch ll [m] h b) (fun m hm hne => ⟨hb m hm, m, hm, Rch.start (by simp) hne⟩) (fun b c _ hq hc hne => by
      obtain ⟨hbr, b', hb', hr'⟩ := hq
      have hcr := pn b c hc
      refine ⟨hcr, b', hb', ?_⟩
      have he := (H c b hcr.1 hcr.2 hbr.1 hbr.2).1 hc
      have h1 : Rch ll [c] h b := by
        refine (Rch.start (by simp) hne : Rch ll [c] h c).step he ?_
        have hs : ∀ m, Rch ll [b] h m → b ≠ h := by
          intro m hm
          exact Rch.rec' (Q := fun _ => b ≠ h) (fun m hm hne => by simp at hm; subst hm; exact hne) (fun _ _ _ q _ _ => q) m hm
        exact hs _ hr'
      exact h1.join hr') k hr
    exact key.2
  · rintro ⟨b, hbm, hr⟩
    have hkr := hk
    have key := Rch.rec' (ll := ll) (frm := [k]) (but := h) (Q := fun m => (0 ≤ m ∧ m < ll.length) ∧ (Rch pp bs h m → Rch pp bs h k)) (fun m hm _ => by
      simp at hm
      subst hm
      exact ⟨hkr, id⟩) (fun x c hx hq hc hne => by
      have hcr := hn x c hc
      refine ⟨hcr, fun hcp => hq.2 (hcp.step ?_ hx.ne)⟩
      exact (H x c hq.1.1 hq.1.2 hcr.1 hcr.2).2 hc) b hr
    exact key.2 (Rch.start hbm hr.ne)
end Go.Proofs.YtmiplohoclckcaaGreat
