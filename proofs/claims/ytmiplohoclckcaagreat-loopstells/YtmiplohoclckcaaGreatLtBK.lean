/- Layer 10, the program: Depth; which loop a loop is within. Layer 10, the program: the loops of a function. -/
import Derived.Test.YtmiplohoclckcaaGreatLtBB
import Derived.Test.YtmiplohoclckcaaGreatLtBJ
namespace Go.Proofs.YtmiplohoclckcaaGreat
open Go Go.RowKit
open G (Tok Er Ins Fun)
set_option maxHeartbeats 2000000 in
set_option maxRecDepth 20000 in
theorem depth_any (l : List Lp) (k : Int) (hl : l.length ≤ 1000000) (hU : UpB l) (v : Value) (w : World) (hv : LoopsV w l v) :
    Calls Tryz.prog 11 #[v, .int .i64 k] w fun e w' => e = .returned (.int .i64 (depthL l k l.length)) ∧ Below w.heap.size w w' := by
  obtain ⟨ao, c, rfl, _, _, hv3⟩ := hv
  have HC := hide hv3
  have HU := hide (fun (k : Nat) (hk : k < l.length) => hU.at hk)
  clear hv3 hU
  go_enter Tryz.func11, Tryz.ntmps11
  go_wp2_with fail
  go_loopw [5, 10] (fun bv kv wr => ∃ K : Nat, K ≤ l.length ∧ bv = .int .i64 (depthL l k K) ∧ kv = .int .i64 K ∧ Hid (Below w.heap.size w wr)) (fun _ kv _ => l.length - (intOf kv).toNat)
  case atStart => exact ⟨0, Nat.zero_le _, rfl, rfl, hide (Below.refl _ _)⟩
  case round =>
    obtain ⟨K, hK, rfl, rfl, HW⟩ := hrel
    by_cases hkt : K < l.length
    · have hkI : (K : Int) < l.length := by omega
      obtain ⟨g, o, rfl, hr⟩ := LoopsV.at HC.out hkt
      obtain ⟨vb, vk, hgl, a0, a1, a2, a3, ib, ik⟩ := lp_all (hr.below HW.out)
      have HS := hide (HU.out K hkt)
      have hm := depthL_max l k K
      have HE := hide (depthL_succ l k K)
      obtain ⟨y, hy⟩ : ∃ y, lpN l K = y := ⟨_, rfl⟩
      rw [hy] at a0 a3 ib ik HE HS
      obtain ⟨bo, bc, rfl, ib2⟩ := id ib
      obtain ⟨ko, kc, rfl, ik2⟩ := id ik
      have HI := hide ib
      have HI2 := hide ik
      clear hr hy ib2 ik2 ib ik
      go_upto_region 5 with fail
      show Code.wp _ _ _ _ (wr.alloc (.cells #[.int .i64 y.1, .slice bo y.2.1.length bc, .slice ko y.2.2.1.length kc, .int .i64 y.2.2.2] 36))
      have b2 := below_box wr (.cells #[.int .i64 y.1, .slice bo y.2.1.length bc, .slice ko y.2.2.1.length kc, .int .i64 y.2.2.2] 36)
      have HX := hide (heap_alloc_new wr (.cells #[.int .i64 y.1, .slice bo y.2.1.length bc, .slice ko y.2.2.1.length kc, .int .i64 y.2.2.2] 36))
      have HLV : Hid (LoopV (wr.alloc (.cells #[.int .i64 y.1, .slice bo y.2.1.length bc, .slice ko y.2.2.1.length kc, .int .i64 y.2.2.2] 36)) y (.agg #[.int .i64 y.1, .slice bo y.2.1.length bc, .slice ko y.2.2.1.length kc, .int .i64 y.2.2.2])) := hide ⟨_, _, rfl, HI.out.below b2, HI2.out.below b2⟩
      have HW2 := hide (below_step HW.out b2)
      clear a0 a1 a2 a3 b2 HI HI2 hgl
      generalize wr.alloc (.cells #[.int .i64 y.1, .slice bo y.2.1.length bc, .slice ko y.2.2.1.length kc, .int .i64 y.2.2.2] 36) = w2 at *
      obtain ⟨⟨c0, c1, c2, c3⟩, _, _⟩ := four_of HX.out
      have HH := hide (holds_any y k _ w2 HLV.out HS.out)
      clear HLV
      cases hh : hasL y.2.1 k with
      | false =>
        rw [hh] at HH HE
        clear hh
        go_wp2_with fail
        refine HH.out.mono ?_; rintro e w3 ⟨rfl, b3⟩
        have HW3 := hide (below_step HW2.out b3)
        clear HH b3 c0 c1 c2 c3 HX
        go_wp2_with fail
        go_roundw
        case rel => exact ⟨K + 1, by omega, by rw [HE.out]; rfl, by go_num, HW3⟩
        case measure => simp [intOf]; omega
      | true =>
        rw [hh] at HH HE
        clear hh
        go_wp2_with fail
        refine HH.out.mono ?_; rintro e w3 ⟨rfl, b3⟩
        have HW3 := hide (below_step HW2.out b3)
        clear HH b3 c0 c1 c2 c3 HX
        go_wp2_with fail
        go_roundw
        case rel => exact ⟨K + 1, by omega, by rw [HE.out]; go_num, by go_num, HW3⟩
        case measure => simp [intOf]; omega
    · obtain rfl : K = l.length := by omega
      go_wp2_with fail
      go_ret
      exact ⟨rfl, HW.out⟩
set_option maxHeartbeats 8000000 in
set_option maxRecDepth 20000 in
theorem around_any (l : List Lp) (i : Nat) (hi : i < l.length) (hl : l.length ≤ 1000000) (hU : UpB l) (v xv : Value) (w : World) (hv : LoopsV w l v) (hx : LoopV w (lpN l i) xv) :
    Calls Tryz.prog 28 #[v, xv] w fun e w' => e = .returned (.int .i64 (bestK l i l.length)) ∧ Below w.heap.size w w' := by
  obtain ⟨x, hxe⟩ : ∃ x, lpN l i = x := ⟨_, rfl⟩
  rw [hxe] at hx
  obtain ⟨xb, xk, rfl, ⟨xo, xc, rfl, _, hx1, hx2⟩, ⟨zo, zc, rfl, _⟩⟩ := hx
  have b0 := below_box w (.cells #[.int .i64 x.1, .slice xo x.2.1.length xc, .slice zo x.2.2.1.length zc, .int .i64 x.2.2.2] 36)
  have HV := hide (hv.below b0)
  have HX0 := hide (heap_alloc_new w (.cells #[.int .i64 x.1, .slice xo x.2.1.length xc, .slice zo x.2.2.1.length zc, .int .i64 x.2.2.2] 36))
  have hs0 : w.heap.size < (w.alloc (.cells #[.int .i64 x.1, .slice xo x.2.1.length xc, .slice zo x.2.2.1.length zc, .int .i64 x.2.2.2] 36)).heap.size := by simp
  have B0 := hide b0
  have HU := hide (fun (k : Nat) (hk : k < l.length) => hU.at hk)
  have hxn : x.2.1.length ≤ 1000000 := by have := (hU.at hi).2; rw [hxe] at this; exact this
  have HOk := hide (fun (K : Nat) => okB_iff l i K)
  have HNb : Hid (nB l i = x.2.1.length ∧ (lpN l i).1 = x.1) := hide (by unfold nB; rw [hxe]; exact ⟨rfl, rfl⟩)
  clear b0 hv hU hxe
  go_enter Tryz.func28, Tryz.ntmps28
  go_upto_region 1 with fail
  show Code.wp _ _ _ _ (w.alloc (.cells #[.int .i64 x.1, .slice xo x.2.1.length xc, .slice zo x.2.2.1.length zc, .int .i64 x.2.2.2] 36))
  generalize w.alloc (.cells #[.int .i64 x.1, .slice xo x.2.1.length xc, .slice zo x.2.2.1.length zc, .int .i64 x.2.2.2] 36) = W at *
  generalize hq : w.heap.size = q at *
  obtain ⟨ao, c, rfl, _, _, hv3⟩ := id HV.out
  have HC := hide hv3
  clear hv3 HV
  go_wp2_with fail
  go_loopw [5, 11] (fun bv kv wr => ∃ K : Nat, K ≤ l.length ∧ bv = .int .i64 (bestK l i K) ∧ kv = .int .i64 K ∧ Hid (Below W.heap.size W wr)) (fun _ kv _ => l.length - (intOf kv).toNat)
  case atStart => exact ⟨0, Nat.zero_le _, rfl, rfl, hide (Below.refl _ _)⟩
  case round =>
    obtain ⟨K, hK, rfl, rfl, HW⟩ := hrel
    by_cases hkt : K < l.length
    · have hkI : (K : Int) < l.length := by omega
      obtain ⟨g, o, rfl, hr⟩ := LoopsV.at HC.out hkt
      have hgW : g < W.heap.size := hr.1
      obtain ⟨vb, vk, hgl, a0, a1, a2, a3, ib, ik⟩ := lp_all (hr.below HW.out)
      have HS := hide (HU.out K hkt)
      have HOK := hide (HOk.out K)
      have hlow := bestK_low l i K
      obtain ⟨y, hy⟩ : ∃ y, lpN l K = y := ⟨_, rfl⟩
      have HNk : Hid (nB l K = y.2.1.length) := hide (by unfold nB; rw [hy])
      rw [hy] at a0 a3 ib ik HS HOK
      rw [HNk.out, HNb.out.1, HNb.out.2] at HOK
      obtain ⟨bo, bc, rfl, ib2⟩ := id ib
      obtain ⟨ko, kc, rfl, ik2⟩ := id ik
      have HI := hide ib
      have HI2 := hide ik
      have hyn : y.2.1.length ≤ 1000000 := HS.out.2
      clear hr hy ib2 ik2 ib ik
      go_upto_region 5 with fail
      show Code.wp _ _ _ _ (wr.alloc (.cells #[.int .i64 y.1, .slice bo y.2.1.length bc, .slice ko y.2.2.1.length kc, .int .i64 y.2.2.2] 36))
      have b2 := below_box wr (.cells #[.int .i64 y.1, .slice bo y.2.1.length bc, .slice ko y.2.2.1.length kc, .int .i64 y.2.2.2] 36)
      have HX := hide (heap_alloc_new wr (.cells #[.int .i64 y.1, .slice bo y.2.1.length bc, .slice ko y.2.2.1.length kc, .int .i64 y.2.2.2] 36))
      have HLV : Hid (LoopV (wr.alloc (.cells #[.int .i64 y.1, .slice bo y.2.1.length bc, .slice ko y.2.2.1.length kc, .int .i64 y.2.2.2] 36)) y (.agg #[.int .i64 y.1, .slice bo y.2.1.length bc, .slice ko y.2.2.1.length kc, .int .i64 y.2.2.2])) := hide ⟨_, _, rfl, HI.out.below b2, HI2.out.below b2⟩
      have HW2 := hide (below_step HW.out b2)
      have hs2 : wr.heap.size < (wr.alloc (.cells #[.int .i64 y.1, .slice bo y.2.1.length bc, .slice ko y.2.2.1.length kc, .int .i64 y.2.2.2] 36)).heap.size := by simp
      clear a0 a1 a2 a3 b2 HI HI2 hgl HW
      generalize wr.alloc (.cells #[.int .i64 y.1, .slice bo y.2.1.length bc, .slice ko y.2.2.1.length kc, .int .i64 y.2.2.2] 36) = w2 at *
      generalize wr.heap.size = q2 at *
      have HX2 := hide ((HW2.out.block q hs0).trans HX0.out)
      obtain ⟨⟨c0, c1, c2, c3⟩, _, _⟩ := four_of HX.out
      obtain ⟨⟨d0, d1, d2, d3⟩, _, _⟩ := four_of HX2.out
      have HH := hide (holds_any y x.1 _ w2 HLV.out HS.out)
      clear HLV
      by_cases hlt : x.2.1.length < y.2.1.length
      · have hltI : ((x.2.1.length : Nat) : Int) < ((y.2.1.length : Nat) : Int) := by omega
        cases hh : hasL y.2.1 x.1 with
        | false =>
            rw [hh] at HH
            have HE : Hid (bestK l i (K + 1) = bestK l i K) := hide (bestK_skip (by rw [HOK.out, hh]; simp))
            clear hh
            go_wp2_with fail
            refine HH.out.mono ?_; rintro e w3 ⟨rfl, b3⟩
            have HW3 := hide (below_step HW2.out b3)
            have hB4 := hide (fun x => below_step HW3.out (L5.grewTo_below w3 x))
            clear HH b3 c0 c1 c2 c3 d0 d1 d2 d3 HX HX2
            go_wp2_with fail
            refine L5.region_grew (by kernel_rfl) (by kernel_rfl) ?_
            repeat (go_big_quiet_step (fail))
            refine wpQuiet_nil ?_
            rintro _ ⟨x2, rfl⟩
            go_wp2_with fail
            go_roundw
            case rel => exact ⟨K + 1, by omega, by rw [HE.out], by go_num, hide (hB4.out x2)⟩
            case measure => simp [intOf]; omega
        | true =>
          rw [hh] at HH
          have HOt : Hid (okB l i K = true) := hide (by rw [HOK.out, hh, decide_eq_true hlt]; rfl)
          clear hh HOK
          go_wp2_with fail
          refine HH.out.mono ?_; rintro e w3 ⟨rfl, b3⟩
          have HW3 := hide (below_step HW2.out b3)
          have hB4 := hide (fun x => below_step HW3.out (L5.grewTo_below w3 x))
          have k1 := fun z => (((below_step b3 (L5.grewTo_below w3 z)).cell (p := ⟨q2, 1, none⟩) hs2).trans c1)
          clear HH b3 c0 c1 c2 c3 d0 d1 d2 d3 HX HX2
          go_upto_region 6 with fail
          by_cases hb0 : bestK l i K = -1
          · have HE : Hid (bestK l i (K + 1) = K) := hide (bestK_first HOt.out (by omega))
            rw [hb0]
            clear hb0
            refine L5.region_grew (by kernel_rfl) (by kernel_rfl) ?_
            repeat (go_big_quiet_step (fail))
            refine wpQuiet_nil ?_
            rintro _ ⟨x2, rfl⟩
            go_wp2_with fail
            go_roundw
            case rel => exact ⟨K + 1, by omega, by rw [HE.out], by go_num, hide (hB4.out x2)⟩
            case measure => simp [intOf]; omega
          · obtain ⟨Bn, hBn⟩ : ∃ Bn : Nat, bestK l i K = (Bn : Int) := ⟨(bestK l i K).toNat, by omega⟩
            have hBl : Bn < l.length := by omega
            have hBI : (Bn : Int) < l.length := by omega
            have hb1 : ((Bn : Int) == -1) = false := beq_eq_false_iff_ne.2 (by omega)
            obtain ⟨g', o', he', hr2⟩ := LoopsV.at HC.out hBl
            injection he' with he'
            injection he' with hg' ho'
            subst hg' ho'
            obtain ⟨qo, qc, _, _, q1, _, _⟩ := lp_cells hr2
            have k2 := fun z => ((hB4.out z).cell (p := ⟨g, o + Bn * 4 + 1, none⟩) hgW).trans q1
            have hqn : (lpN l Bn).2.1.length ≤ 1000000 := (HU.out Bn hBl).2
            rw [hBn]
            have HBn := hide hBn
            clear hlow hb0 hr2 q1
            by_cases hlb : y.2.1.length < (lpN l Bn).2.1.length
            · have hltI : ((y.2.1.length : Nat) : Int) < (((lpN l Bn).2.1.length : Nat) : Int) := by omega
              have hd : decide (y.2.1.length < (lpN l Bn).2.1.length) = true := decide_eq_true hlb
              have HE : Hid (bestK l i (K + 1) = K) := hide (bestK_less HOt.out (by rw [HBn.out, HNk.out]; exact hlb))
              clear hBn hlb
              refine L5.region_grew (by kernel_rfl) (by kernel_rfl) ?_
              repeat (go_big_quiet_step (fail))
              refine wpQuiet_nil ?_
              rintro _ ⟨x2, rfl⟩
              go_wp2_with fail
              go_roundw
              case rel => exact ⟨K + 1, by omega, by rw [HE.out], by go_num, hide (hB4.out x2)⟩
              case measure => simp [intOf]; omega
            · have hltI : ¬ ((y.2.1.length : Nat) : Int) < (((lpN l Bn).2.1.length : Nat) : Int) := by omega
              have hd : decide (y.2.1.length < (lpN l Bn).2.1.length) = false := decide_eq_false hlb
              have HE : Hid (bestK l i (K + 1) = Bn) := hide (by rw [bestK_keep (by rw [HBn.out]; omega) (by rw [HBn.out, HNk.out]; exact hlb), HBn.out])
              clear hBn hlb
              refine L5.region_grew (by kernel_rfl) (by kernel_rfl) ?_
              repeat (go_big_quiet_step (fail))
              refine wpQuiet_nil ?_
              rintro _ ⟨x2, rfl⟩
              go_wp2_with fail
              go_roundw
              case rel => exact ⟨K + 1, by omega, by rw [HE.out], by go_num, hide (hB4.out x2)⟩
              case measure => simp [intOf]; omega
      · have hltI : ¬ ((x.2.1.length : Nat) : Int) < ((y.2.1.length : Nat) : Int) := by omega
        have HE : Hid (bestK l i (K + 1) = bestK l i K) := hide (bestK_skip (by rw [HOK.out, decide_eq_false hlt]; rfl))
        have hB4 := hide (fun x => below_step HW2.out (L5.grewTo_below w2 x))
        clear hlt HH HOK
        go_upto_region 6 with fail
        clear c0 c1 c2 c3 d0 d1 d2 d3 HX HX2
        refine L5.region_grew (by kernel_rfl) (by kernel_rfl) ?_
        repeat (go_big_quiet_step (fail))
        refine wpQuiet_nil ?_
        rintro _ ⟨x2, rfl⟩
        go_wp2_with fail
        go_roundw
        case rel => exact ⟨K + 1, by omega, by rw [HE.out], by go_num, hide (hB4.out x2)⟩
        case measure => simp [intOf]; omega
    · obtain rfl : K = l.length := by omega
      have HE : Hid (Below w.heap.size w wr) := hide (by
        have h1 := B0.out
        rw [← hq] at h1
        exact below_step h1 HW.out)
      go_wp2_with fail
      go_ret
      exact ⟨rfl, HE.out⟩
end Go.Proofs.YtmiplohoclckcaaGreat
namespace Go.Proofs.YtmiplohoclckcaaGreat
open Go Go.RowKit
open G (Tok Er Ins Fun)
open Mix (Up)
theorem LpRow.setUp {B : Nat} {w : World} (r : Int) : ∀ (l : List Lp) (cs : List Value) (i : Nat) (x : Lp), LpRow B w l cs → l[i]? = some x → LpRow B w (l.set i (x.1, x.2.1, x.2.2.1, r)) (cs.set (i * 4 + 3) (.int .i64 r)) := by
  intro l
  induction l with
  | nil => intro cs i x _ h; simp at h
  | cons y l ih =>
    rintro cs i x ⟨vb, vk, rest, rfl, h1, h2, h3⟩ hx
    cases i with
    | zero =>
      simp at hx
      subst hx
      exact ⟨vb, vk, rest, rfl, h1, h2, h3⟩
    | succ i =>
      have e : (i + 1) * 4 + 3 = (i * 4 + 3) + 4 := by omega
      rw [e]
      exact ⟨vb, vk, rest.set (i * 4 + 3) (.int .i64 r), rfl, h1, h2, ih rest i x h3 (by simpa using hx)⟩
theorem LoopsO.setUp {B g n c i : Nat} {w : World} {l : List Lp} {x : Lp} (h : LoopsO B w l (.slice (some ⟨g, 0, none⟩) n c)) (hn : n = l.length) (hx : l[i]? = some x) (r : Int) : LoopsO B (w.setCell ⟨g, i * 4 + 3, none⟩ (.int .i64 r)) (l.set i (x.1, x.2.1, x.2.2.1, r)) (.slice (some ⟨g, 0, none⟩) n c) := by
  obtain ⟨cs, h1, h2⟩ := h
  subst hn
  refine ⟨cs.set (i * 4 + 3) (.int .i64 r), ?_, LpRow.setUp r l cs i x (h2.map (fun v n xs hv => own_setCell hv (p := ⟨g, i * 4 + 3, none⟩) ?_ _) _ _) hx⟩
  · rw [List.length_set]
    exact (World.ownsRow.stored h1 (i * 4 + 3) (.int .i64 r)).1
  · rcases own_apart hv h1 (by decide) with e | e
    · rw [e]; intro h9; cases h9
    · exact e
theorem LoopsO.len {B : Nat} {w : World} {l : List Lp} {v : Value} (h : LoopsO B w l v) : ∃ ao c, v = .slice ao l.length c := by
  obtain ⟨cs, h1, _⟩ := h
  exact own_len h1
def Up.tree (f : Fun) : Up := ⟨fun v w => TreeV w f v, fun _ _ _ b h => h.below b⟩
def lofUp (fv : Value) (f : Fun) (t : Tmp) : Up := match t with
  | 11 | 13 => Up.eq fv
  | 12 | 3 => Up.tree f
  | 14 | 4 => Up.rows (predsF f)
  | _ => Up.any
set_option maxHeartbeats 2000000 in
set_option maxRecDepth 20000 in
theorem lof_any (f : Fun) (v : Value) (w : World) (hv : FunV w f v) (hF : Ful f) (hT : Tos f) (h0 : 0 < f.2.2.2.1.length) :
    Calls Tryz.prog 8 #[v] w fun e w' => ∃ u, e = .returned u ∧ LoopsV w' (loopsF f) u ∧ Below w.heap.size w w' := by
  obtain ⟨i6, hi6, hz0, hz1, hz2⟩ := info_parts Tryz.info36
  have hv2 := hv
  obtain ⟨vp, vb, rfl, _, _⟩ := hv2
  have b0 := below_box w (.cells #[.string (bs f.1), vp, .int .i64 f.2.2.1, vb, .int .i64 f.2.2.2.2] 25)
  have X0 := hide (L5.Box.new w [.string (bs f.1), vp, .int .i64 f.2.2.1, vb, .int .i64 f.2.2.2.2] 25)
  have HV := hide (hv.below b0)
  have B0 := hide b0
  have HGr := hide (gr_succs hT h0)
  have hN : f.2.2.2.1.length ≤ 1000000 := hF.1
  have HCo := hide (fun v w hv => of_any f v w hv hF hT h0)
  have HCr := hide (fun v w hv => preds_any f v w hv hF hT)
  have HSl := hide (succsF_len f)
  have HPl := hide (preds_len f)
  have HBo := hide (fun (h : Nat) po bo pc bc w hp hb => body_any f h po bo pc bc w hp hb hN hT h0)
  have HTc := hide (fun (v : Value) (w : World) (h : TreeV w f v) => h.cells h0)
  have HUb := hide (fun I => upB_mix (f := f) hN I)
  have HRl : Hid ((rawL f).length ≤ f.2.2.2.1.length) := hide (loopK_len f _)
  clear b0 hv hF hT
  obtain ⟨lp, cp, rfl⟩ : ∃ ao c, vp = .slice ao f.2.1.length c := by
    obtain ⟨vp', vb', e, ⟨ao, c, e2, _⟩, _⟩ := HV.out
    injection e with e
    have e1 := congrArg (fun a => a[1]?) e
    simp at e1
    exact ⟨ao, c, by rw [e1, e2]⟩
  obtain ⟨lb, cb, rfl⟩ : ∃ ao c, vb = .slice ao f.2.2.2.1.length c := by
    obtain ⟨vp', vb', e, _, ⟨ao, c, e2, _⟩⟩ := HV.out
    injection e with e
    have e1 := congrArg (fun a => a[3]?) e
    simp at e1
    exact ⟨ao, c, by rw [e1, e2]⟩
  generalize bs f.1 = nm at *
  generalize f.2.1.length = lps at *
  generalize f.2.2.1 = rt at *
  obtain ⟨lbs, hlbs⟩ : ∃ n, n = f.2.2.2.1.length := ⟨_, rfl⟩
  have HEnd : Hid (loopZ f lbs = mixU (rawL f) 0) := hide (by rw [hlbs]; exact loopZ_end f)
  have HRow : Hid (∀ K : Nat, K < lbs → ∃ l, (predsF f)[K]? = some l ∧ l.length ≤ 1000000 ∧ l.filter (fun k => aheadB (succsF f) K k) = backsOf f K) := hide (by
    intro K hK
    have hKl : K < f.2.2.2.1.length := by omega
    obtain ⟨l, hl⟩ : ∃ l, (predsF f)[K]? = some l := ⟨_, List.getElem?_eq_getElem (by rw [preds_len]; exact hKl)⟩
    refine ⟨l, hl, Nat.le_trans (pred_len f l (List.mem_of_getElem? hl)) hN, ?_⟩
    have := backs_preds f K hKl
    rwa [List.getD_eq_getElem?_getD, hl] at this)
  rw [← hlbs] at X0 HV B0 hN HSl HPl HTc h0 HRl ⊢
  clear hlbs
  generalize f.2.2.2.2 = pl at *
  go_enter Tryz.func8, Tryz.ntmps8
  go_upto_region 1 with fail
  show Code.wp _ _ _ _ (w.alloc (.cells #[.string nm, .slice lp lps cp, .int .i64 rt, .slice lb lbs cb, .int .i64 pl] 25))
  replace X0 : Hid (L5.Box (w.alloc (.cells #[.string nm, .slice lp lps cp, .int .i64 rt, .slice lb lbs cb, .int .i64 pl] 25)) w.heap.size [.string nm, .slice lp lps cp, .int .i64 rt, .slice lb lbs cb, .int .i64 pl]) := X0
  generalize w.alloc (.cells #[.string nm, .slice lp lps cp, .int .i64 rt, .slice lb lbs cb, .int .i64 pl] 25) = W at *
  generalize hq : w.heap.size = q at *
  have CT : ∀ w, Below W.heap.size W w → Calls Tryz.prog 24 #[(.agg #[.string nm, .slice lp lps cp, .int .i64 rt, .slice lb lbs cb, .int .i64 pl])] w fun e w' => ∃ v, e = .returned v ∧ Below w.heap.size w w' ∧ TreeV w' f v := fun w b => (HCo.out _ w (HV.out.below b)).mono fun e w' ⟨a, he, h, b'⟩ => ⟨_, he, b', h⟩
  have CR : ∀ w, Below W.heap.size W w → Calls Tryz.prog 25 #[(.agg #[.string nm, .slice lp lps cp, .int .i64 rt, .slice lb lbs cb, .int .i64 pl])] w fun e w' => ∃ v, e = .returned v ∧ Below w.heap.size w w' ∧ RowsV w' (predsF f) v := fun w b => (HCr.out _ w (HV.out.below b)).mono fun e w' ⟨v, he, h, b'⟩ => ⟨_, he, b', h.read⟩
  have xs := fun (w : World) (b : Below W.heap.size W w) => And.intro ((X0.out.below b).2 0 _ rfl) (And.intro ((X0.out.below b).2 1 _ rfl) (And.intro ((X0.out.below b).2 2 _ rfl) (And.intro ((X0.out.below b).2 3 _ rfl) ((X0.out.below b).2 4 _ rfl))))
  refine Mix.wp_region_mix (lofUp (.agg #[.string nm, .slice lp lps cp, .int .i64 rt, .slice lb lbs cb, .int .i64 pl]) f) (by kernel_rfl) (by kernel_rfl) ?_
  refine Mix.mix_step rfl (valid_eq (.agg #[.string nm, .slice lp lps cp, .int .i64 rt, .slice lb lbs cb, .int .i64 pl]) rfl) ?_ ?_
  · intro w b k
    obtain ⟨x0, x1, x2, x3, x4⟩ := xs w b
    clear k
    simp [go_sem, x0, x1, x2, x3, x4]
    exact ⟨Below.refl _ _, fun d hd => by cases hd; rfl⟩
  rintro v ⟨_, _, h⟩
  obtain rfl : v = (.agg #[.string nm, .slice lp lps cp, .int .i64 rt, .slice lb lbs cb, .int .i64 pl]) := h _ rfl
  clear h
  simp only [Act.put, List.setIfInBounds_toArray, List.set_cons_succ, List.set_cons_zero]
  refine Mix.mix_step rfl (valid_of (CT W (Below.refl _ _))) ?_ ?_
  · intro w b k
    clear k
    simp [go_sem]
    exact Calls.mono (CT w b) fun e w' ⟨v, he, hb, hf⟩ => ⟨v, he, hb, fun d hd => by cases hd; exact hf⟩
  rintro p12 -
  simp only [Act.put, List.setIfInBounds_toArray, List.set_cons_succ, List.set_cons_zero]
  refine Mix.mix_step rfl (valid_eq (.agg #[.string nm, .slice lp lps cp, .int .i64 rt, .slice lb lbs cb, .int .i64 pl]) rfl) ?_ ?_
  · intro w b k
    obtain ⟨x0, x1, x2, x3, x4⟩ := xs w b
    clear k
    simp [go_sem, x0, x1, x2, x3, x4]
    exact ⟨Below.refl _ _, fun d hd => by cases hd; rfl⟩
  rintro v ⟨_, _, h⟩
  obtain rfl : v = (.agg #[.string nm, .slice lp lps cp, .int .i64 rt, .slice lb lbs cb, .int .i64 pl]) := h _ rfl
  clear h
  simp only [Act.put, List.setIfInBounds_toArray, List.set_cons_succ, List.set_cons_zero]
  refine Mix.mix_step rfl (valid_of (CR W (Below.refl _ _))) ?_ ?_
  · intro w b k
    clear k
    simp [go_sem]
    exact Calls.mono (CR w b) fun e w' ⟨v, he, hb, hf⟩ => ⟨v, he, hb, fun d hd => by cases hd; exact hf⟩
  rintro p14 -
  simp only [Act.put, List.setIfInBounds_toArray, List.set_cons_succ, List.set_cons_zero]
  refine Mix.mix_step rfl (valid_of (CT W (Below.refl _ _))) ?_ ?_
  · intro w b k
    have f : TreeV w f p12 := k 12 (by decide +kernel) (by simp [Mix.add]) p12 rfl
    clear k
    simp [go_sem]
    exact ⟨Below.refl _ _, fun d hd => by cases hd; exact f⟩
  rintro p3 -
  simp only [Act.put, List.setIfInBounds_toArray, List.set_cons_succ, List.set_cons_zero]
  refine Mix.mix_step rfl (valid_of (CR W (Below.refl _ _))) ?_ ?_
  · intro w b k
    have f : RowsV w (predsF f) p14 := k 14 (by decide +kernel) (by simp [Mix.add]) p14 rfl
    clear k
    simp [go_sem]
    exact ⟨Below.refl _ _, fun d hd => by cases hd; exact f⟩
  rintro p4 -
  simp only [Act.put, List.setIfInBounds_toArray, List.set_cons_succ, List.set_cons_zero]
  refine Mix.mix_nil ?_
  intro w2 b2 hk
  have f3 : TreeV w2 f p3 := hk 3 (by simp [Mix.add]) p3 rfl
  have f4 : RowsV w2 (predsF f) p4 := hk 4 (by simp [Mix.add]) p4 rfl
  have B2 : Hid (Below w.heap.size w w2) := hide (by have h := B0.out; rw [← hq] at h; exact below_step h b2)
  clear CT CR xs hk HCo HCr X0 HV B0 b2
  obtain ⟨t, ub, uo, db, dd, uc, dc, rfl, hTc⟩ := HTc.out _ _ f3
  obtain ⟨po, pc, rfl, hpr, _, _⟩ := f4
  have HTr := hide hTc
  have HPr := hide hpr
  rw [HPl.out]
  clear hTc hpr f3 HTc hq
  go_wp2_with fail
  go_loopw [5, 17] (fun lv i wr => ∃ K : Nat, K ≤ lbs ∧ i = .int .i64 K ∧ Hid (LoopsO w2.heap.size wr (loopZ f K) lv) ∧ Hid (Below w2.heap.size w2 wr)) (fun _ i _ => lbs - (intOf i).toNat)
  case atStart => exact ⟨0, Nat.zero_le _, rfl, hide (LoopsO.nil _ _), hide (Below.refl _ _)⟩
  case round =>
    obtain ⟨K, hK, rfl, HL, HW⟩ := hrel
    obtain ⟨lo, lc, rfl⟩ := HL.out.len
    have hll := loopZ_len f K
    by_cases hkt : K < lbs
    · have hkI : (K : Int) < lbs := by omega
      obtain ⟨l, hl, hln, hlf⟩ := HRow.out K hkt
      rcases HPr.out with he | ⟨rb, ro, rfl, hrb, hrc⟩
      · rw [he] at hl; simp at hl
      obtain ⟨u, cu, hu⟩ := hrc K l hl
      obtain ⟨lo2, lc2, rfl, hsl, _, _⟩ := hu
      have c1 := (HW.out.cell (p := ⟨rb, ro + K, none⟩) hrb).trans cu
      have HBl := hide (below_any HGr.out (K : Int) l lo2 lc2 wr (by rw [HSl.out]; exact HTr.out.below HW.out) (hsl.below HW.out) hln)
      rw [hlf] at HBl
      clear hrc cu hsl hl hlf
      go_upto_region 7 with fail
      refine HBl.out.mono ?_; rintro e w3 ⟨u2, rfl, hg⟩
      have HG := hide hg
      obtain ⟨bo, bc, rfl, hsb, hbm⟩ := hg.slice
      have HW3 := hide (below_step HW.out hg.2)
      have HL3 := hide (HL.out.below hg.2)
      have hws := HW.out.size
      clear HBl hg HL HW c1
      go_upto_region 7 with fail
      by_cases hbe : backsOf f K = []
      · have HE : Hid (LoopsO w2.heap.size w3 (loopZ f (K + 1)) (.slice lo (loopZ f K).length lc)) := hide (by rw [loopZ_no hbe]; exact HL3.out)
        have hbl : (backsOf f K).length = 0 := by rw [hbe]; rfl
        rw [hbl]
        clear hbe HG HL3
        go_wp2_with fail
        go_roundw
        case rel => exact ⟨K + 1, by omega, by go_num, HE, HW3⟩
        case measure => simp [intOf]; omega
      · have hbl : 0 < (backsOf f K).length := List.length_pos_iff.2 hbe
        have hblI : (0 : Int) < (backsOf f K).length := by omega
        have HLz := hide (loopZ_yes hbe)
        have HBd := hide (HBo.out K (some ⟨rb, ro, none⟩) bo pc bc w3 (HPr.out.below HW3.out) hsb)
        rw [HPl.out] at HBd
        have hw3s : w2.heap.size ≤ w3.heap.size := HW3.out.size
        unfold maxLen at hbm
        clear hbe hsb
        go_wp2_with fail
        refine HBd.out.mono ?_; rintro e w4 ⟨u3, rfl, hg4⟩
        have HB3 := hide (own_base hg4.1 hw3s)
        have HK3 := hide (own_base (own_below hg4.2 _ _ _ _ _ _ HG.out.1) hws)
        obtain ⟨ko, kc, rfl, _, hkm⟩ := hg4.slice
        have HW4 := hide (below_step HW3.out hg4.2)
        have HL4 := hide (HL3.out.below hg4.2)
        unfold maxLen at hkm
        clear hg4 HG HL3 HBd HW3
        obtain ⟨cs, y2, y4⟩ := id HL4.out
        have Y2 := hide y2
        have Y4 := hide y4
        have HOc := hide (lp_one (a := (K : Int)) (d := 0) HB3.out HK3.out)
        have hy9 := HW4.out.size
        clear y2 y4 HL4
        go_wp2_with (at_builtin; refine wpList_append_own_at _ rfl (.tmp 29) (.tmp 37) 28 rfl w2.heap.size 36 i6 _ 4 64 Tryz.underlying28 hi6 hz0 hz1 hz2 rfl (by decide) _ _ _ rfl (Y2.out.alloc _) ⟨w4.heap.size, 0, none⟩ 1 1 [.int .i64 K, .slice ko (blocksOf f K).length kc, .slice bo (backsOf f K).length bc, .int .i64 0] rfl rfl four_cell HOc.out (by unfold maxLen; omega) (by omega) (by simp; omega) ?_; intro v5 w5 own5 grow5 _ at5; refine Hid.out ?_)
        have HE : Hid (LoopsO w2.heap.size w5 (loopZ f (K + 1)) v5 ∧ Below w2.heap.size w2 w5) := hide ⟨by
          rw [HLz.out]
          exact LoopsO.step (x := ((K : Int), blocksOf f K, backsOf f K, 0)) HB3.out HK3.out Y2.out Y4.out own5 grow5, Below.grown (HW4.out.alloc hy9 _) grow5 (by simp; omega) (fun j hj => (Y2.out.lt j hj).1)⟩
        obtain ⟨vo, vc, rfl⟩ := own_len own5
        clear own5 grow5 at5
        refine hide ?_
        go_wp2_with fail
        go_roundw
        case rel => exact ⟨K + 1, by omega, by go_num, hide HE.out.1, hide HE.out.2⟩
        case measure => simp [intOf]; omega
    · obtain rfl : K = lbs := by omega
      have HLf : Hid (loopsF f = upsK (rawL f) (rawL f).length) := hide rfl
      rw [HEnd.out] at HL hll
      rw [HEnd.out]
      rw [mixU_len] at HL hll
      rw [mixU_len]
      have hrl := HRl.out
      clear HRow HBo HTr HPr HEnd HRl HPl HSl HGr
      generalize rawL f = raw at *
      go_wp2_with fail
      go_loopw [42] (fun i wr => ∃ I : Nat, I ≤ raw.length ∧ i = .int .i64 I ∧ Hid (LoopsO w2.heap.size wr (mixU raw I) (.slice lo raw.length lc)) ∧ Hid (Below w2.heap.size w2 wr)) (fun i _ => raw.length - (intOf i).toNat)
      case atStart => exact ⟨0, Nat.zero_le _, rfl, HL, HW⟩
      case round =>
        clear HL HW
        obtain ⟨I, hI, rfl, HL, HW⟩ := hrel
        by_cases hit : I < raw.length
        · have hiI : (I : Int) < raw.length := by omega
          have hml : I < (mixU raw I).length := by rw [mixU_len]; exact hit
          have HUI := hide (HUb.out I)
          obtain ⟨cs, q1, q2⟩ := id HL.out
          rcases own_view q1 with ⟨_, hn⟩ | ⟨g, cap, hge, k1, k2, k3, k4, k5, k6⟩
          · omega
          injection hge with hg1 hg2 hg3
          subst hg1 hg3
          clear hg2
          obtain ⟨vb, vk, a0, a1, a2, a3, ob, ok⟩ := LpRow.at _ cs q2 I _ (lpN_at hml)
          have c0 := k5 _ _ a0
          have c1 := k5 _ _ a1
          have c2 := k5 _ _ a2
          have c3 := k5 _ _ a3
          have HSt : Hid (∀ w', LoopsO w2.heap.size w' (mixU raw I) (.slice (some ⟨g, 0, none⟩) raw.length lc) → LoopsO w2.heap.size (w'.setCell ⟨g, I * 4 + 3, none⟩ (.int .i64 (bestK raw I raw.length))) (mixU raw (I + 1)) (.slice (some ⟨g, 0, none⟩) raw.length lc)) := hide (fun w' h => by
            have h2 := LoopsO.setUp h (mixU_len raw I).symm (mixU_at hit) (bestK raw I raw.length)
            rw [mixU_set]
            exact h2)
          have HAr := hide (fun (v xv : Value) (w : World) hv hx => around_any (mixU raw I) I hml (by rw [mixU_len]; omega) HUI.out v xv w hv hx)
          have hbest := mixU_best (raw := raw) (I := I) hit raw.length (Nat.le_refl _)
          rw [mixU_len, hbest] at HAr
          obtain ⟨r, hr⟩ : ∃ r, bestK raw I raw.length = r := ⟨_, rfl⟩
          rw [hr] at HAr HSt
          obtain ⟨y, hy⟩ : ∃ y, lpN (mixU raw I) I = y := ⟨_, rfl⟩
          rw [hy] at c0 c3 ob ok HAr
          obtain ⟨bo, bc, rfl⟩ := own_len ob
          obtain ⟨ko, kc, rfl⟩ := own_len ok
          have HOb := hide (ints_of ob)
          have HOk := hide (ints_of ok)
          have hbn : y.2.1.length ≤ 1000000 := by have := (HUI.out.at hml).2; rw [hy] at this; exact this
          clear q1 q2 a0 a1 a2 a3 ob ok k1 k2 k5 k6 hy hr hbest HUI
          go_upto_region 13 with fail
          show Code.wp _ _ _ _ (wr.alloc (.cells #[.int .i64 y.1, .slice bo y.2.1.length bc, .slice ko y.2.2.1.length kc, .int .i64 y.2.2.2] 36))
          have b3 := below_box wr (.cells #[.int .i64 y.1, .slice bo y.2.1.length bc, .slice ko y.2.2.1.length kc, .int .i64 y.2.2.2] 36)
          have HX := hide (heap_alloc_new wr (.cells #[.int .i64 y.1, .slice bo y.2.1.length bc, .slice ko y.2.2.1.length kc, .int .i64 y.2.2.2] 36))
          have HL3 := hide (HL.out.below b3)
          have HW3 := hide (below_step HW.out b3)
          have HC7 := hide (HAr.out _ (.agg #[.int .i64 y.1, .slice bo y.2.1.length bc, .slice ko y.2.2.1.length kc, .int .i64 y.2.2.2]) _ HL3.out.read ⟨_, _, rfl, HOb.out.below b3, HOk.out.below b3⟩)
          clear c0 c1 c2 c3 b3 HL HW HOb HOk HAr
          generalize wr.alloc (.cells #[.int .i64 y.1, .slice bo y.2.1.length bc, .slice ko y.2.2.1.length kc, .int .i64 y.2.2.2] 36) = w7 at *
          generalize wr.heap.size = bx at *
          obtain ⟨⟨c0, c1, c2, c3⟩, _, _⟩ := four_of HX.out
          go_wp2_with fail
          refine HC7.out.mono ?_; rintro e w8 ⟨rfl, b8⟩
          have HL8 := hide (HL3.out.below b8)
          have HW8 := hide (below_step HW3.out b8)
          have HE : Hid (LoopsO w2.heap.size (w8.setCell ⟨g, I * 4 + 3, none⟩ (.int .i64 r)) (mixU raw (I + 1)) (.slice (some ⟨g, 0, none⟩) raw.length lc) ∧ Below w2.heap.size w2 (w8.setCell ⟨g, I * 4 + 3, none⟩ (.int .i64 r))) := hide ⟨HSt.out w8 HL8.out, HW8.out.setCell (p := ⟨g, I * 4 + 3, none⟩) k3 _⟩
          obtain ⟨cs8, q1, q2⟩ := id HL8.out
          obtain ⟨vb, vk, _, _, _, a3, _, _⟩ := LpRow.at _ cs8 q2 I _ (lpN_at hml)
          rcases own_view q1 with ⟨_, hn⟩ | ⟨g', cap', hge, _, _, _, _, k5, k6⟩
          · omega
          injection hge with hg1 hg2 hg3
          injection hg1 with hg1
          injection hg1 with hg1
          subst hg1
          have s3 := k5 _ _ a3
          have s4 := k6 (I * 4 + 3)
          clear c0 c1 c2 c3 HX HC7 b8 HL3 HW3 HL8 HW8 q1 q2 a3 k5 k6 HSt hg2 hg3
          go_wp2_with fail
          go_roundw
          case rel => exact ⟨I + 1, by omega, by go_num, hide HE.out.1, hide HE.out.2⟩
          case measure => simp [intOf]; omega
        · obtain rfl : I = raw.length := by omega
          have HE : Hid (LoopsV wr (loopsF f) (.slice lo raw.length lc) ∧ Below w.heap.size w wr) := hide ⟨by rw [HLf.out, ← mixU_end]; exact HL.out.read, below_step B2.out HW.out⟩
          go_wp2_with fail
          go_ret
          exact ⟨_, rfl, HE.out.1, HE.out.2⟩
end Go.Proofs.YtmiplohoclckcaaGreat
