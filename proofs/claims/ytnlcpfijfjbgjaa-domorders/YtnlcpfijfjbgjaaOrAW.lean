/- Layer 9: the law DomOrders. Bytes that come in, opened. -/
import Derived.Test.YtnlcpfijfjbgjaaOrAU
import Derived.Test.YtnlcpfijfjbgjaaOrAV
import Derived.BigQuiet
namespace Go.Proofs.Ytnlcpfijfjbgjaa
open Go Go.RowKit
open G (Tok Er Ins Fun)
set_option maxHeartbeats 8000000 in
set_option maxRecDepth 20000 in
theorem lawOrders {T : World → Fun → Value → Prop} {G : World → Prop} (D : Dom T G) (f : Fun) (a b c : Int) (v : Value) (w : World) (hv : FunV w f v) (hg : GyF f) (hG : G w) (ha : 0 ≤ a ∧ a < 256) (hb : 0 ≤ b ∧ b < 256) (hc : 0 ≤ c ∧ c < 256) :
    Calls Try.prog 5 #[v, .int .u8 a, .int .u8 b, .int .u8 c] w fun e w' => e = .returned (.bool true) ∧ Below w.heap.size w w' := by
  have hv2 := hv
  obtain ⟨vp, vb, rfl, _, _⟩ := hv2
  have b0 := below_box w (.cells #[.string (bs f.1), vp, .int .i64 f.2.2.1, vb, .int .i64 f.2.2.2.2] 25)
  have X0 := hide (L5.Box.new w [.string (bs f.1), vp, .int .i64 f.2.2.1, vb, .int .i64 f.2.2.2.2] 25)
  have HV := hide (hv.below b0)
  have B0 := hide b0
  have HG := hide hg
  have HGw := hide (D.gb hG b0)
  have HD := hide D
  have HWk := hide (fun w (h : G w) => works9_any D w h)
  clear b0 hv hg hG D
  obtain ⟨lp, cp, rfl⟩ : ∃ ao c, vp = .slice ao f.2.1.length c := by
    obtain ⟨vp', vb', e, ⟨ao, c, e2, _⟩, _⟩ := HV.out
    injection e with e
    have e1 := congrArg (fun a => a[1]?) e
    simp at e1
    exact ⟨ao, c, by rw [e1, e2]⟩
  obtain ⟨lb, cb, rfl⟩ : ∃ ao c, vb = .slice ao f.2.2.2.1.length c := by
    obtain ⟨vp', vb', e, _, ⟨ao, c, e2, _⟩⟩ := HV.out
    injection e with e
    have e1 := congrArg (fun a => a[3]?) e
    simp at e1
    exact ⟨ao, c, by rw [e1, e2]⟩
  have HLt := hide (light9_any f _ _ HV.out HG.out)
  have HOf := hide (fun w1 (b : Below (w.alloc (.cells #[.string (bs f.1), .slice lp f.2.1.length cp, .int .i64 f.2.2.1, .slice lb f.2.2.2.1.length cb, .int .i64 f.2.2.2.2] 25)).heap.size _ w1) (h : Lgt9 f) => HD.out.of f _ w1 (HD.out.gb HGw.out b) (HV.out.below b) h)
  have HLl : Hid (Lgt9 f → 0 < f.2.2.2.1.length ∧ f.2.2.2.1.length ≤ 10) := hide (fun h => ⟨lgt_pos h.1, h.2⟩)
  generalize bs f.1 = nm at *
  generalize f.2.1.length = lps at *
  generalize f.2.2.1 = rt at *
  generalize f.2.2.2.1.length = lbs at *
  generalize f.2.2.2.2 = pl at *
  go_enter Try.func5, Try.ntmps5
  go_upto_region 1 with fail
  show Code.wp _ _ _ _ (w.alloc (.cells #[.string nm, .slice lp lps cp, .int .i64 rt, .slice lb lbs cb, .int .i64 pl] 25))
  replace X0 : Hid (L5.Box (w.alloc (.cells #[.string nm, .slice lp lps cp, .int .i64 rt, .slice lb lbs cb, .int .i64 pl] 25)) w.heap.size [.string nm, .slice lp lps cp, .int .i64 rt, .slice lb lbs cb, .int .i64 pl]) := X0
  generalize w.alloc (.cells #[.string nm, .slice lp lps cp, .int .i64 rt, .slice lb lbs cb, .int .i64 pl] 25) = W at *
  obtain ⟨x0, x1, x2, x3, x4⟩ : _ ∧ _ ∧ _ ∧ _ ∧ _ := ⟨X0.out.2 0 _ rfl, X0.out.2 1 _ rfl, X0.out.2 2 _ rfl, X0.out.2 3 _ rfl, X0.out.2 4 _ rfl⟩
  go_wp2_with fail
  refine HLt.out.mono ?_; rintro e w1 ⟨he, b1⟩
  have B1 := hide b1
  clear x0 x1 x2 x3 x4 HLt b1
  rcases he with rfl | ⟨rfl, hl⟩
  · have HW2 := hide (HWk.out w1 (HD.out.gb HGw.out B1.out))
    go_wp2_with fail
    refine HW2.out.mono ?_; rintro e w3 ⟨rfl, b3⟩
    have HE := hide (below_step B0.out (below_step B1.out b3))
    clear b3
    go_wp2_with fail
    go_ret
    exact ⟨rfl, HE.out⟩
  obtain ⟨hn0, hn1⟩ := HLl.out hl
  have HLg := hide hl
  have HO := hide (HOf.out w1 B1.out hl)
  clear hl HLl
  obtain ⟨x0, x1, x2, x3, x4⟩ : _ ∧ _ ∧ _ ∧ _ ∧ _ := ⟨(X0.out.below B1.out).2 0 _ rfl, (X0.out.below B1.out).2 1 _ rfl, (X0.out.below B1.out).2 2 _ rfl, (X0.out.below B1.out).2 3 _ rfl, (X0.out.below B1.out).2 4 _ rfl⟩
  go_wp2_with fail
  refine HO.out.mono ?_; rintro e w2 ⟨ta, rfl, hT, b2⟩
  have HT := hide hT
  have B2 := hide (below_step B1.out b2)
  clear x0 x1 x2 x3 x4 HO hT b2 HOf
  have x3 := (X0.out.below B2.out).2 3 _ rfl
  have hnz : ((lbs : Int) == 0) = false := beq_eq_false_iff_ne.2 (by omega)
  have hnz2 : ¬ (lbs : Int) = 0 := by omega
  go_wp2_with fail
  go_region
  have b3 : Below w2.heap.size w2 w2.drew := L5.below_drew1 _
  replace HT := hide (HD.out.tb HT.out b3)
  replace B2 := hide (below_step B2.out b3)
  have hx : 0 ≤ a % (lbs : Int) ∧ a % (lbs : Int) < 10 := ⟨Int.emod_nonneg _ hnz2, by have := Int.emod_lt_of_pos a (b := (lbs : Int)) (by omega); omega⟩
  have hy : 0 ≤ b % (lbs : Int) ∧ b % (lbs : Int) < 10 := ⟨Int.emod_nonneg _ hnz2, by have := Int.emod_lt_of_pos b (b := (lbs : Int)) (by omega); omega⟩
  have hz : 0 ≤ c % (lbs : Int) ∧ c % (lbs : Int) < 10 := ⟨Int.emod_nonneg _ hnz2, by have := Int.emod_lt_of_pos c (b := (lbs : Int)) (by omega); omega⟩
  clear b3 x3 hnz hnz2
  generalize a % (lbs : Int) = x at *
  generalize b % (lbs : Int) = y at *
  generalize c % (lbs : Int) = z at *
  generalize w2.drew = w3 at *
  have rx : R64 x := ⟨by omega, by omega⟩
  have ry : R64 y := ⟨by omega, by omega⟩
  have rz : R64 z := ⟨by omega, by omega⟩
  have r0 : R64 0 := ⟨by omega, by omega⟩
  have HTr := hide (fun h k => (ahead_iff HLg.out.gr x z).2 (((ahead_iff HLg.out.gr x y).1 h).trans ((ahead_iff HLg.out.gr y z).1 k)))
  have HAn := hide (fun h k => ((ahead_iff HLg.out.gr x y).1 h).anti ((ahead_iff HLg.out.gr y x).1 k))
  have HCh : Hid (aheadB (succsF f) x z = true → aheadB (succsF f) y z = true → aheadB (succsF f) x y = true ∨ aheadB (succsF f) y x = true) := hide (fun h k => (((ahead_iff HLg.out.gr x z).1 h).chain ((ahead_iff HLg.out.gr y z).1 k)).imp (ahead_iff HLg.out.gr x y).2 (ahead_iff HLg.out.gr y x).2)
  have HF0 : Hid (aheadB (succsF f) 0 x = aheadB (succsF f) x x) := hide (by
    rw [Bool.eq_iff_iff, ahead_iff HLg.out.gr, ahead_iff HLg.out.gr]
    exact ⟨fun h => Ahd.refl h.2.1, fun h => Ahd.first h.1⟩)
  obtain ⟨q, hq⟩ : ∃ q, aheadB (succsF f) x x = q := ⟨_, rfl⟩
  have HF := hide (HF0.out.trans hq)
  have Hq := hide hq
  clear hq HF0 hx hy hz ha hb hc
  have hqq : (q == q) = true := by simp
  cases hxy : aheadB (succsF f) x y <;> cases hyz : aheadB (succsF f) y z <;> cases hxz : aheadB (succsF f) x z <;> cases hyx : aheadB (succsF f) y x
  · have Hxy := hide hxy
    have Hyz := hide hyz
    have Hxz := hide hxz
    have Hyx := hide hyx
    clear hxy hyz hxz hyx HTr HAn HCh
    have K1 := hide (HD.out.ahead f x y _ w3 HT.out HLg.out rx ry)
    rw [Hxy.out] at K1
    go_wp2_with fail
    refine K1.out.mono ?_; rintro e w4 ⟨rfl, b3⟩
    replace HT := hide (HD.out.tb HT.out b3)
    replace B2 := hide (below_step B2.out b3)
    clear b3 K1
    have K1 := hide (HD.out.ahead f x y _ w4 HT.out HLg.out rx ry)
    rw [Hxy.out] at K1
    go_wp2_with fail
    refine K1.out.mono ?_; rintro e w5 ⟨rfl, b3⟩
    replace HT := hide (HD.out.tb HT.out b3)
    replace B2 := hide (below_step B2.out b3)
    clear b3 K1
    have K1 := hide (HD.out.ahead f x z _ w5 HT.out HLg.out rx rz)
    rw [Hxz.out] at K1
    go_wp2_with fail
    refine K1.out.mono ?_; rintro e w6 ⟨rfl, b3⟩
    replace HT := hide (HD.out.tb HT.out b3)
    replace B2 := hide (below_step B2.out b3)
    clear b3 K1
    have K1 := hide (HD.out.ahead f 0 x _ w6 HT.out HLg.out r0 rx)
    rw [HF.out] at K1
    go_wp2_with fail
    refine K1.out.mono ?_; rintro e w7 ⟨rfl, b3⟩
    replace HT := hide (HD.out.tb HT.out b3)
    replace B2 := hide (below_step B2.out b3)
    clear b3 K1
    have K1 := hide (HD.out.ahead f x x _ w7 HT.out HLg.out rx rx)
    rw [Hq.out] at K1
    go_wp2_with fail
    refine K1.out.mono ?_; rintro e w8 ⟨rfl, b3⟩
    replace HT := hide (HD.out.tb HT.out b3)
    replace B2 := hide (below_step B2.out b3)
    clear b3 K1
    have HW2 := hide (HWk.out w8 (HD.out.gb HGw.out B2.out))
    go_wp2_with fail
    refine HW2.out.mono ?_; rintro e w9 ⟨rfl, b3⟩
    replace B2 := hide (below_step B0.out (below_step B2.out b3))
    clear b3 HW2
    go_wp2_with fail
    go_ret
    exact ⟨rfl, B2.out⟩
  · have Hxy := hide hxy
    have Hyz := hide hyz
    have Hxz := hide hxz
    have Hyx := hide hyx
    clear hxy hyz hxz hyx HTr HAn HCh
    have K1 := hide (HD.out.ahead f x y _ w3 HT.out HLg.out rx ry)
    rw [Hxy.out] at K1
    go_wp2_with fail
    refine K1.out.mono ?_; rintro e w4 ⟨rfl, b3⟩
    replace HT := hide (HD.out.tb HT.out b3)
    replace B2 := hide (below_step B2.out b3)
    clear b3 K1
    have K1 := hide (HD.out.ahead f x y _ w4 HT.out HLg.out rx ry)
    rw [Hxy.out] at K1
    go_wp2_with fail
    refine K1.out.mono ?_; rintro e w5 ⟨rfl, b3⟩
    replace HT := hide (HD.out.tb HT.out b3)
    replace B2 := hide (below_step B2.out b3)
    clear b3 K1
    have K1 := hide (HD.out.ahead f x z _ w5 HT.out HLg.out rx rz)
    rw [Hxz.out] at K1
    go_wp2_with fail
    refine K1.out.mono ?_; rintro e w6 ⟨rfl, b3⟩
    replace HT := hide (HD.out.tb HT.out b3)
    replace B2 := hide (below_step B2.out b3)
    clear b3 K1
    have K1 := hide (HD.out.ahead f 0 x _ w6 HT.out HLg.out r0 rx)
    rw [HF.out] at K1
    go_wp2_with fail
    refine K1.out.mono ?_; rintro e w7 ⟨rfl, b3⟩
    replace HT := hide (HD.out.tb HT.out b3)
    replace B2 := hide (below_step B2.out b3)
    clear b3 K1
    have K1 := hide (HD.out.ahead f x x _ w7 HT.out HLg.out rx rx)
    rw [Hq.out] at K1
    go_wp2_with fail
    refine K1.out.mono ?_; rintro e w8 ⟨rfl, b3⟩
    replace HT := hide (HD.out.tb HT.out b3)
    replace B2 := hide (below_step B2.out b3)
    clear b3 K1
    have HW2 := hide (HWk.out w8 (HD.out.gb HGw.out B2.out))
    go_wp2_with fail
    refine HW2.out.mono ?_; rintro e w9 ⟨rfl, b3⟩
    replace B2 := hide (below_step B0.out (below_step B2.out b3))
    clear b3 HW2
    go_wp2_with fail
    go_ret
    exact ⟨rfl, B2.out⟩
  · have Hxy := hide hxy
    have Hyz := hide hyz
    have Hxz := hide hxz
    have Hyx := hide hyx
    clear hxy hyz hxz hyx HTr HAn HCh
    have K1 := hide (HD.out.ahead f x y _ w3 HT.out HLg.out rx ry)
    rw [Hxy.out] at K1
    go_wp2_with fail
    refine K1.out.mono ?_; rintro e w4 ⟨rfl, b3⟩
    replace HT := hide (HD.out.tb HT.out b3)
    replace B2 := hide (below_step B2.out b3)
    clear b3 K1
    have K1 := hide (HD.out.ahead f x y _ w4 HT.out HLg.out rx ry)
    rw [Hxy.out] at K1
    go_wp2_with fail
    refine K1.out.mono ?_; rintro e w5 ⟨rfl, b3⟩
    replace HT := hide (HD.out.tb HT.out b3)
    replace B2 := hide (below_step B2.out b3)
    clear b3 K1
    have K1 := hide (HD.out.ahead f x z _ w5 HT.out HLg.out rx rz)
    rw [Hxz.out] at K1
    go_wp2_with fail
    refine K1.out.mono ?_; rintro e w6 ⟨rfl, b3⟩
    replace HT := hide (HD.out.tb HT.out b3)
    replace B2 := hide (below_step B2.out b3)
    clear b3 K1
    have K1 := hide (HD.out.ahead f y z _ w6 HT.out HLg.out ry rz)
    rw [Hyz.out] at K1
    go_wp2_with fail
    refine K1.out.mono ?_; rintro e w7 ⟨rfl, b3⟩
    replace HT := hide (HD.out.tb HT.out b3)
    replace B2 := hide (below_step B2.out b3)
    clear b3 K1
    have K1 := hide (HD.out.ahead f 0 x _ w7 HT.out HLg.out r0 rx)
    rw [HF.out] at K1
    go_wp2_with fail
    refine K1.out.mono ?_; rintro e w8 ⟨rfl, b3⟩
    replace HT := hide (HD.out.tb HT.out b3)
    replace B2 := hide (below_step B2.out b3)
    clear b3 K1
    have K1 := hide (HD.out.ahead f x x _ w8 HT.out HLg.out rx rx)
    rw [Hq.out] at K1
    go_wp2_with fail
    refine K1.out.mono ?_; rintro e w9 ⟨rfl, b3⟩
    replace HT := hide (HD.out.tb HT.out b3)
    replace B2 := hide (below_step B2.out b3)
    clear b3 K1
    have HW2 := hide (HWk.out w9 (HD.out.gb HGw.out B2.out))
    go_wp2_with fail
    refine HW2.out.mono ?_; rintro e w10 ⟨rfl, b3⟩
    replace B2 := hide (below_step B0.out (below_step B2.out b3))
    clear b3 HW2
    go_wp2_with fail
    go_ret
    exact ⟨rfl, B2.out⟩
  · have Hxy := hide hxy
    have Hyz := hide hyz
    have Hxz := hide hxz
    have Hyx := hide hyx
    clear hxy hyz hxz hyx HTr HAn HCh
    have K1 := hide (HD.out.ahead f x y _ w3 HT.out HLg.out rx ry)
    rw [Hxy.out] at K1
    go_wp2_with fail
    refine K1.out.mono ?_; rintro e w4 ⟨rfl, b3⟩
    replace HT := hide (HD.out.tb HT.out b3)
    replace B2 := hide (below_step B2.out b3)
    clear b3 K1
    have K1 := hide (HD.out.ahead f x y _ w4 HT.out HLg.out rx ry)
    rw [Hxy.out] at K1
    go_wp2_with fail
    refine K1.out.mono ?_; rintro e w5 ⟨rfl, b3⟩
    replace HT := hide (HD.out.tb HT.out b3)
    replace B2 := hide (below_step B2.out b3)
    clear b3 K1
    have K1 := hide (HD.out.ahead f x z _ w5 HT.out HLg.out rx rz)
    rw [Hxz.out] at K1
    go_wp2_with fail
    refine K1.out.mono ?_; rintro e w6 ⟨rfl, b3⟩
    replace HT := hide (HD.out.tb HT.out b3)
    replace B2 := hide (below_step B2.out b3)
    clear b3 K1
    have K1 := hide (HD.out.ahead f y z _ w6 HT.out HLg.out ry rz)
    rw [Hyz.out] at K1
    go_wp2_with fail
    refine K1.out.mono ?_; rintro e w7 ⟨rfl, b3⟩
    replace HT := hide (HD.out.tb HT.out b3)
    replace B2 := hide (below_step B2.out b3)
    clear b3 K1
    have K1 := hide (HD.out.ahead f 0 x _ w7 HT.out HLg.out r0 rx)
    rw [HF.out] at K1
    go_wp2_with fail
    refine K1.out.mono ?_; rintro e w8 ⟨rfl, b3⟩
    replace HT := hide (HD.out.tb HT.out b3)
    replace B2 := hide (below_step B2.out b3)
    clear b3 K1
    have K1 := hide (HD.out.ahead f x x _ w8 HT.out HLg.out rx rx)
    rw [Hq.out] at K1
    go_wp2_with fail
    refine K1.out.mono ?_; rintro e w9 ⟨rfl, b3⟩
    replace HT := hide (HD.out.tb HT.out b3)
    replace B2 := hide (below_step B2.out b3)
    clear b3 K1
    have HW2 := hide (HWk.out w9 (HD.out.gb HGw.out B2.out))
    go_wp2_with fail
    refine HW2.out.mono ?_; rintro e w10 ⟨rfl, b3⟩
    replace B2 := hide (below_step B0.out (below_step B2.out b3))
    clear b3 HW2
    go_wp2_with fail
    go_ret
    exact ⟨rfl, B2.out⟩
  · have Hxy := hide hxy
    have Hyz := hide hyz
    have Hxz := hide hxz
    have Hyx := hide hyx
    clear hxy hyz hxz hyx HTr HAn HCh
    have K1 := hide (HD.out.ahead f x y _ w3 HT.out HLg.out rx ry)
    rw [Hxy.out] at K1
    go_wp2_with fail
    refine K1.out.mono ?_; rintro e w4 ⟨rfl, b3⟩
    replace HT := hide (HD.out.tb HT.out b3)
    replace B2 := hide (below_step B2.out b3)
    clear b3 K1
    have K1 := hide (HD.out.ahead f x y _ w4 HT.out HLg.out rx ry)
    rw [Hxy.out] at K1
    go_wp2_with fail
    refine K1.out.mono ?_; rintro e w5 ⟨rfl, b3⟩
    replace HT := hide (HD.out.tb HT.out b3)
    replace B2 := hide (below_step B2.out b3)
    clear b3 K1
    have K1 := hide (HD.out.ahead f x z _ w5 HT.out HLg.out rx rz)
    rw [Hxz.out] at K1
    go_wp2_with fail
    refine K1.out.mono ?_; rintro e w6 ⟨rfl, b3⟩
    replace HT := hide (HD.out.tb HT.out b3)
    replace B2 := hide (below_step B2.out b3)
    clear b3 K1
    have K1 := hide (HD.out.ahead f 0 x _ w6 HT.out HLg.out r0 rx)
    rw [HF.out] at K1
    go_wp2_with fail
    refine K1.out.mono ?_; rintro e w7 ⟨rfl, b3⟩
    replace HT := hide (HD.out.tb HT.out b3)
    replace B2 := hide (below_step B2.out b3)
    clear b3 K1
    have K1 := hide (HD.out.ahead f x x _ w7 HT.out HLg.out rx rx)
    rw [Hq.out] at K1
    go_wp2_with fail
    refine K1.out.mono ?_; rintro e w8 ⟨rfl, b3⟩
    replace HT := hide (HD.out.tb HT.out b3)
    replace B2 := hide (below_step B2.out b3)
    clear b3 K1
    have HW2 := hide (HWk.out w8 (HD.out.gb HGw.out B2.out))
    go_wp2_with fail
    refine HW2.out.mono ?_; rintro e w9 ⟨rfl, b3⟩
    replace B2 := hide (below_step B0.out (below_step B2.out b3))
    clear b3 HW2
    go_wp2_with fail
    go_ret
    exact ⟨rfl, B2.out⟩
  · have Hxy := hide hxy
    have Hyz := hide hyz
    have Hxz := hide hxz
    have Hyx := hide hyx
    clear hxy hyz hxz hyx HTr HAn HCh
    have K1 := hide (HD.out.ahead f x y _ w3 HT.out HLg.out rx ry)
    rw [Hxy.out] at K1
    go_wp2_with fail
    refine K1.out.mono ?_; rintro e w4 ⟨rfl, b3⟩
    replace HT := hide (HD.out.tb HT.out b3)
    replace B2 := hide (below_step B2.out b3)
    clear b3 K1
    have K1 := hide (HD.out.ahead f x y _ w4 HT.out HLg.out rx ry)
    rw [Hxy.out] at K1
    go_wp2_with fail
    refine K1.out.mono ?_; rintro e w5 ⟨rfl, b3⟩
    replace HT := hide (HD.out.tb HT.out b3)
    replace B2 := hide (below_step B2.out b3)
    clear b3 K1
    have K1 := hide (HD.out.ahead f x z _ w5 HT.out HLg.out rx rz)
    rw [Hxz.out] at K1
    go_wp2_with fail
    refine K1.out.mono ?_; rintro e w6 ⟨rfl, b3⟩
    replace HT := hide (HD.out.tb HT.out b3)
    replace B2 := hide (below_step B2.out b3)
    clear b3 K1
    have K1 := hide (HD.out.ahead f 0 x _ w6 HT.out HLg.out r0 rx)
    rw [HF.out] at K1
    go_wp2_with fail
    refine K1.out.mono ?_; rintro e w7 ⟨rfl, b3⟩
    replace HT := hide (HD.out.tb HT.out b3)
    replace B2 := hide (below_step B2.out b3)
    clear b3 K1
    have K1 := hide (HD.out.ahead f x x _ w7 HT.out HLg.out rx rx)
    rw [Hq.out] at K1
    go_wp2_with fail
    refine K1.out.mono ?_; rintro e w8 ⟨rfl, b3⟩
    replace HT := hide (HD.out.tb HT.out b3)
    replace B2 := hide (below_step B2.out b3)
    clear b3 K1
    have HW2 := hide (HWk.out w8 (HD.out.gb HGw.out B2.out))
    go_wp2_with fail
    refine HW2.out.mono ?_; rintro e w9 ⟨rfl, b3⟩
    replace B2 := hide (below_step B0.out (below_step B2.out b3))
    clear b3 HW2
    go_wp2_with fail
    go_ret
    exact ⟨rfl, B2.out⟩
  · exfalso; have := HCh.out hxz hyz; rw [hxy, hyx] at this; rcases this with e | e <;> cases e
  · have Hxy := hide hxy
    have Hyz := hide hyz
    have Hxz := hide hxz
    have Hyx := hide hyx
    clear hxy hyz hxz hyx HTr HAn HCh
    have K1 := hide (HD.out.ahead f x y _ w3 HT.out HLg.out rx ry)
    rw [Hxy.out] at K1
    go_wp2_with fail
    refine K1.out.mono ?_; rintro e w4 ⟨rfl, b3⟩
    replace HT := hide (HD.out.tb HT.out b3)
    replace B2 := hide (below_step B2.out b3)
    clear b3 K1
    have K1 := hide (HD.out.ahead f x y _ w4 HT.out HLg.out rx ry)
    rw [Hxy.out] at K1
    go_wp2_with fail
    refine K1.out.mono ?_; rintro e w5 ⟨rfl, b3⟩
    replace HT := hide (HD.out.tb HT.out b3)
    replace B2 := hide (below_step B2.out b3)
    clear b3 K1
    have K1 := hide (HD.out.ahead f x z _ w5 HT.out HLg.out rx rz)
    rw [Hxz.out] at K1
    go_wp2_with fail
    refine K1.out.mono ?_; rintro e w6 ⟨rfl, b3⟩
    replace HT := hide (HD.out.tb HT.out b3)
    replace B2 := hide (below_step B2.out b3)
    clear b3 K1
    have K1 := hide (HD.out.ahead f y z _ w6 HT.out HLg.out ry rz)
    rw [Hyz.out] at K1
    go_wp2_with fail
    refine K1.out.mono ?_; rintro e w7 ⟨rfl, b3⟩
    replace HT := hide (HD.out.tb HT.out b3)
    replace B2 := hide (below_step B2.out b3)
    clear b3 K1
    have K1 := hide (HD.out.ahead f x y _ w7 HT.out HLg.out rx ry)
    rw [Hxy.out] at K1
    go_wp2_with fail
    refine K1.out.mono ?_; rintro e w8 ⟨rfl, b3⟩
    replace HT := hide (HD.out.tb HT.out b3)
    replace B2 := hide (below_step B2.out b3)
    clear b3 K1
    have K1 := hide (HD.out.ahead f y x _ w8 HT.out HLg.out ry rx)
    rw [Hyx.out] at K1
    go_wp2_with fail
    refine K1.out.mono ?_; rintro e w9 ⟨rfl, b3⟩
    replace HT := hide (HD.out.tb HT.out b3)
    replace B2 := hide (below_step B2.out b3)
    clear b3 K1
    have K1 := hide (HD.out.ahead f 0 x _ w9 HT.out HLg.out r0 rx)
    rw [HF.out] at K1
    go_wp2_with fail
    refine K1.out.mono ?_; rintro e w10 ⟨rfl, b3⟩
    replace HT := hide (HD.out.tb HT.out b3)
    replace B2 := hide (below_step B2.out b3)
    clear b3 K1
    have K1 := hide (HD.out.ahead f x x _ w10 HT.out HLg.out rx rx)
    rw [Hq.out] at K1
    go_wp2_with fail
    refine K1.out.mono ?_; rintro e w11 ⟨rfl, b3⟩
    replace HT := hide (HD.out.tb HT.out b3)
    replace B2 := hide (below_step B2.out b3)
    clear b3 K1
    have HW2 := hide (HWk.out w11 (HD.out.gb HGw.out B2.out))
    go_wp2_with fail
    refine HW2.out.mono ?_; rintro e w12 ⟨rfl, b3⟩
    replace B2 := hide (below_step B0.out (below_step B2.out b3))
    clear b3 HW2
    go_wp2_with fail
    go_ret
    exact ⟨rfl, B2.out⟩
  · have Hxy := hide hxy
    have Hyz := hide hyz
    have Hxz := hide hxz
    have Hyx := hide hyx
    clear hxy hyz hxz hyx HTr HAn HCh
    have K1 := hide (HD.out.ahead f x y _ w3 HT.out HLg.out rx ry)
    rw [Hxy.out] at K1
    go_wp2_with fail
    refine K1.out.mono ?_; rintro e w4 ⟨rfl, b3⟩
    replace HT := hide (HD.out.tb HT.out b3)
    replace B2 := hide (below_step B2.out b3)
    clear b3 K1
    have K1 := hide (HD.out.ahead f y z _ w4 HT.out HLg.out ry rz)
    rw [Hyz.out] at K1
    go_wp2_with fail
    refine K1.out.mono ?_; rintro e w5 ⟨rfl, b3⟩
    replace HT := hide (HD.out.tb HT.out b3)
    replace B2 := hide (below_step B2.out b3)
    clear b3 K1
    have K1 := hide (HD.out.ahead f x y _ w5 HT.out HLg.out rx ry)
    rw [Hxy.out] at K1
    go_wp2_with fail
    refine K1.out.mono ?_; rintro e w6 ⟨rfl, b3⟩
    replace HT := hide (HD.out.tb HT.out b3)
    replace B2 := hide (below_step B2.out b3)
    clear b3 K1
    have K1 := hide (HD.out.ahead f y x _ w6 HT.out HLg.out ry rx)
    rw [Hyx.out] at K1
    go_wp2_with fail
    refine K1.out.mono ?_; rintro e w7 ⟨rfl, b3⟩
    replace HT := hide (HD.out.tb HT.out b3)
    replace B2 := hide (below_step B2.out b3)
    clear b3 K1
    have K1 := hide (HD.out.ahead f x z _ w7 HT.out HLg.out rx rz)
    rw [Hxz.out] at K1
    go_wp2_with fail
    refine K1.out.mono ?_; rintro e w8 ⟨rfl, b3⟩
    replace HT := hide (HD.out.tb HT.out b3)
    replace B2 := hide (below_step B2.out b3)
    clear b3 K1
    have K1 := hide (HD.out.ahead f 0 x _ w8 HT.out HLg.out r0 rx)
    rw [HF.out] at K1
    go_wp2_with fail
    refine K1.out.mono ?_; rintro e w9 ⟨rfl, b3⟩
    replace HT := hide (HD.out.tb HT.out b3)
    replace B2 := hide (below_step B2.out b3)
    clear b3 K1
    have K1 := hide (HD.out.ahead f x x _ w9 HT.out HLg.out rx rx)
    rw [Hq.out] at K1
    go_wp2_with fail
    refine K1.out.mono ?_; rintro e w10 ⟨rfl, b3⟩
    replace HT := hide (HD.out.tb HT.out b3)
    replace B2 := hide (below_step B2.out b3)
    clear b3 K1
    have HW2 := hide (HWk.out w10 (HD.out.gb HGw.out B2.out))
    go_wp2_with fail
    refine HW2.out.mono ?_; rintro e w11 ⟨rfl, b3⟩
    replace B2 := hide (below_step B0.out (below_step B2.out b3))
    clear b3 HW2
    go_wp2_with fail
    go_ret
    exact ⟨rfl, B2.out⟩
  · have Hxy := hide hxy
    have Hyz := hide hyz
    have Hxz := hide hxz
    have Hyx := hide hyx
    have hne : (x != y) = false := by simpa using HAn.out hxy hyx
    clear hxy hyz hxz hyx HTr HAn HCh
    have K1 := hide (HD.out.ahead f x y _ w3 HT.out HLg.out rx ry)
    rw [Hxy.out] at K1
    go_wp2_with fail
    refine K1.out.mono ?_; rintro e w4 ⟨rfl, b3⟩
    replace HT := hide (HD.out.tb HT.out b3)
    replace B2 := hide (below_step B2.out b3)
    clear b3 K1
    have K1 := hide (HD.out.ahead f y z _ w4 HT.out HLg.out ry rz)
    rw [Hyz.out] at K1
    go_wp2_with fail
    refine K1.out.mono ?_; rintro e w5 ⟨rfl, b3⟩
    replace HT := hide (HD.out.tb HT.out b3)
    replace B2 := hide (below_step B2.out b3)
    clear b3 K1
    have K1 := hide (HD.out.ahead f x y _ w5 HT.out HLg.out rx ry)
    rw [Hxy.out] at K1
    go_wp2_with fail
    refine K1.out.mono ?_; rintro e w6 ⟨rfl, b3⟩
    replace HT := hide (HD.out.tb HT.out b3)
    replace B2 := hide (below_step B2.out b3)
    clear b3 K1
    have K1 := hide (HD.out.ahead f y x _ w6 HT.out HLg.out ry rx)
    rw [Hyx.out] at K1
    go_wp2_with fail
    refine K1.out.mono ?_; rintro e w7 ⟨rfl, b3⟩
    replace HT := hide (HD.out.tb HT.out b3)
    replace B2 := hide (below_step B2.out b3)
    clear b3 K1
    have K1 := hide (HD.out.ahead f x z _ w7 HT.out HLg.out rx rz)
    rw [Hxz.out] at K1
    go_wp2_with fail
    refine K1.out.mono ?_; rintro e w8 ⟨rfl, b3⟩
    replace HT := hide (HD.out.tb HT.out b3)
    replace B2 := hide (below_step B2.out b3)
    clear b3 K1
    have K1 := hide (HD.out.ahead f 0 x _ w8 HT.out HLg.out r0 rx)
    rw [HF.out] at K1
    go_wp2_with fail
    refine K1.out.mono ?_; rintro e w9 ⟨rfl, b3⟩
    replace HT := hide (HD.out.tb HT.out b3)
    replace B2 := hide (below_step B2.out b3)
    clear b3 K1
    have K1 := hide (HD.out.ahead f x x _ w9 HT.out HLg.out rx rx)
    rw [Hq.out] at K1
    go_wp2_with fail
    refine K1.out.mono ?_; rintro e w10 ⟨rfl, b3⟩
    replace HT := hide (HD.out.tb HT.out b3)
    replace B2 := hide (below_step B2.out b3)
    clear b3 K1
    have HW2 := hide (HWk.out w10 (HD.out.gb HGw.out B2.out))
    go_wp2_with fail
    refine HW2.out.mono ?_; rintro e w11 ⟨rfl, b3⟩
    replace B2 := hide (below_step B0.out (below_step B2.out b3))
    clear b3 HW2
    go_wp2_with fail
    go_ret
    exact ⟨rfl, B2.out⟩
  · have Hxy := hide hxy
    have Hyz := hide hyz
    have Hxz := hide hxz
    have Hyx := hide hyx
    clear hxy hyz hxz hyx HTr HAn HCh
    have K1 := hide (HD.out.ahead f x y _ w3 HT.out HLg.out rx ry)
    rw [Hxy.out] at K1
    go_wp2_with fail
    refine K1.out.mono ?_; rintro e w4 ⟨rfl, b3⟩
    replace HT := hide (HD.out.tb HT.out b3)
    replace B2 := hide (below_step B2.out b3)
    clear b3 K1
    have K1 := hide (HD.out.ahead f y z _ w4 HT.out HLg.out ry rz)
    rw [Hyz.out] at K1
    go_wp2_with fail
    refine K1.out.mono ?_; rintro e w5 ⟨rfl, b3⟩
    replace HT := hide (HD.out.tb HT.out b3)
    replace B2 := hide (below_step B2.out b3)
    clear b3 K1
    have K1 := hide (HD.out.ahead f x y _ w5 HT.out HLg.out rx ry)
    rw [Hxy.out] at K1
    go_wp2_with fail
    refine K1.out.mono ?_; rintro e w6 ⟨rfl, b3⟩
    replace HT := hide (HD.out.tb HT.out b3)
    replace B2 := hide (below_step B2.out b3)
    clear b3 K1
    have K1 := hide (HD.out.ahead f y x _ w6 HT.out HLg.out ry rx)
    rw [Hyx.out] at K1
    go_wp2_with fail
    refine K1.out.mono ?_; rintro e w7 ⟨rfl, b3⟩
    replace HT := hide (HD.out.tb HT.out b3)
    replace B2 := hide (below_step B2.out b3)
    clear b3 K1
    have K1 := hide (HD.out.ahead f x z _ w7 HT.out HLg.out rx rz)
    rw [Hxz.out] at K1
    go_wp2_with fail
    refine K1.out.mono ?_; rintro e w8 ⟨rfl, b3⟩
    replace HT := hide (HD.out.tb HT.out b3)
    replace B2 := hide (below_step B2.out b3)
    clear b3 K1
    have K1 := hide (HD.out.ahead f y z _ w8 HT.out HLg.out ry rz)
    rw [Hyz.out] at K1
    go_wp2_with fail
    refine K1.out.mono ?_; rintro e w9 ⟨rfl, b3⟩
    replace HT := hide (HD.out.tb HT.out b3)
    replace B2 := hide (below_step B2.out b3)
    clear b3 K1
    have K1 := hide (HD.out.ahead f 0 x _ w9 HT.out HLg.out r0 rx)
    rw [HF.out] at K1
    go_wp2_with fail
    refine K1.out.mono ?_; rintro e w10 ⟨rfl, b3⟩
    replace HT := hide (HD.out.tb HT.out b3)
    replace B2 := hide (below_step B2.out b3)
    clear b3 K1
    have K1 := hide (HD.out.ahead f x x _ w10 HT.out HLg.out rx rx)
    rw [Hq.out] at K1
    go_wp2_with fail
    refine K1.out.mono ?_; rintro e w11 ⟨rfl, b3⟩
    replace HT := hide (HD.out.tb HT.out b3)
    replace B2 := hide (below_step B2.out b3)
    clear b3 K1
    have HW2 := hide (HWk.out w11 (HD.out.gb HGw.out B2.out))
    go_wp2_with fail
    refine HW2.out.mono ?_; rintro e w12 ⟨rfl, b3⟩
    replace B2 := hide (below_step B0.out (below_step B2.out b3))
    clear b3 HW2
    go_wp2_with fail
    go_ret
    exact ⟨rfl, B2.out⟩
  · have Hxy := hide hxy
    have Hyz := hide hyz
    have Hxz := hide hxz
    have Hyx := hide hyx
    have hne : (x != y) = false := by simpa using HAn.out hxy hyx
    clear hxy hyz hxz hyx HTr HAn HCh
    have K1 := hide (HD.out.ahead f x y _ w3 HT.out HLg.out rx ry)
    rw [Hxy.out] at K1
    go_wp2_with fail
    refine K1.out.mono ?_; rintro e w4 ⟨rfl, b3⟩
    replace HT := hide (HD.out.tb HT.out b3)
    replace B2 := hide (below_step B2.out b3)
    clear b3 K1
    have K1 := hide (HD.out.ahead f y z _ w4 HT.out HLg.out ry rz)
    rw [Hyz.out] at K1
    go_wp2_with fail
    refine K1.out.mono ?_; rintro e w5 ⟨rfl, b3⟩
    replace HT := hide (HD.out.tb HT.out b3)
    replace B2 := hide (below_step B2.out b3)
    clear b3 K1
    have K1 := hide (HD.out.ahead f x y _ w5 HT.out HLg.out rx ry)
    rw [Hxy.out] at K1
    go_wp2_with fail
    refine K1.out.mono ?_; rintro e w6 ⟨rfl, b3⟩
    replace HT := hide (HD.out.tb HT.out b3)
    replace B2 := hide (below_step B2.out b3)
    clear b3 K1
    have K1 := hide (HD.out.ahead f y x _ w6 HT.out HLg.out ry rx)
    rw [Hyx.out] at K1
    go_wp2_with fail
    refine K1.out.mono ?_; rintro e w7 ⟨rfl, b3⟩
    replace HT := hide (HD.out.tb HT.out b3)
    replace B2 := hide (below_step B2.out b3)
    clear b3 K1
    have K1 := hide (HD.out.ahead f x z _ w7 HT.out HLg.out rx rz)
    rw [Hxz.out] at K1
    go_wp2_with fail
    refine K1.out.mono ?_; rintro e w8 ⟨rfl, b3⟩
    replace HT := hide (HD.out.tb HT.out b3)
    replace B2 := hide (below_step B2.out b3)
    clear b3 K1
    have K1 := hide (HD.out.ahead f y z _ w8 HT.out HLg.out ry rz)
    rw [Hyz.out] at K1
    go_wp2_with fail
    refine K1.out.mono ?_; rintro e w9 ⟨rfl, b3⟩
    replace HT := hide (HD.out.tb HT.out b3)
    replace B2 := hide (below_step B2.out b3)
    clear b3 K1
    have K1 := hide (HD.out.ahead f 0 x _ w9 HT.out HLg.out r0 rx)
    rw [HF.out] at K1
    go_wp2_with fail
    refine K1.out.mono ?_; rintro e w10 ⟨rfl, b3⟩
    replace HT := hide (HD.out.tb HT.out b3)
    replace B2 := hide (below_step B2.out b3)
    clear b3 K1
    have K1 := hide (HD.out.ahead f x x _ w10 HT.out HLg.out rx rx)
    rw [Hq.out] at K1
    go_wp2_with fail
    refine K1.out.mono ?_; rintro e w11 ⟨rfl, b3⟩
    replace HT := hide (HD.out.tb HT.out b3)
    replace B2 := hide (below_step B2.out b3)
    clear b3 K1
    have HW2 := hide (HWk.out w11 (HD.out.gb HGw.out B2.out))
    go_wp2_with fail
    refine HW2.out.mono ?_; rintro e w12 ⟨rfl, b3⟩
    replace B2 := hide (below_step B0.out (below_step B2.out b3))
    clear b3 HW2
    go_wp2_with fail
    go_ret
    exact ⟨rfl, B2.out⟩
  · exfalso; have := HTr.out hxy hyz; rw [hxz] at this; cases this
  · exfalso; have := HTr.out hxy hyz; rw [hxz] at this; cases this
  · have Hxy := hide hxy
    have Hyz := hide hyz
    have Hxz := hide hxz
    have Hyx := hide hyx
    clear hxy hyz hxz hyx HTr HAn HCh
    have K1 := hide (HD.out.ahead f x y _ w3 HT.out HLg.out rx ry)
    rw [Hxy.out] at K1
    go_wp2_with fail
    refine K1.out.mono ?_; rintro e w4 ⟨rfl, b3⟩
    replace HT := hide (HD.out.tb HT.out b3)
    replace B2 := hide (below_step B2.out b3)
    clear b3 K1
    have K1 := hide (HD.out.ahead f y z _ w4 HT.out HLg.out ry rz)
    rw [Hyz.out] at K1
    go_wp2_with fail
    refine K1.out.mono ?_; rintro e w5 ⟨rfl, b3⟩
    replace HT := hide (HD.out.tb HT.out b3)
    replace B2 := hide (below_step B2.out b3)
    clear b3 K1
    have K1 := hide (HD.out.ahead f x z _ w5 HT.out HLg.out rx rz)
    rw [Hxz.out] at K1
    go_wp2_with fail
    refine K1.out.mono ?_; rintro e w6 ⟨rfl, b3⟩
    replace HT := hide (HD.out.tb HT.out b3)
    replace B2 := hide (below_step B2.out b3)
    clear b3 K1
    have K1 := hide (HD.out.ahead f x y _ w6 HT.out HLg.out rx ry)
    rw [Hxy.out] at K1
    go_wp2_with fail
    refine K1.out.mono ?_; rintro e w7 ⟨rfl, b3⟩
    replace HT := hide (HD.out.tb HT.out b3)
    replace B2 := hide (below_step B2.out b3)
    clear b3 K1
    have K1 := hide (HD.out.ahead f y x _ w7 HT.out HLg.out ry rx)
    rw [Hyx.out] at K1
    go_wp2_with fail
    refine K1.out.mono ?_; rintro e w8 ⟨rfl, b3⟩
    replace HT := hide (HD.out.tb HT.out b3)
    replace B2 := hide (below_step B2.out b3)
    clear b3 K1
    have K1 := hide (HD.out.ahead f x z _ w8 HT.out HLg.out rx rz)
    rw [Hxz.out] at K1
    go_wp2_with fail
    refine K1.out.mono ?_; rintro e w9 ⟨rfl, b3⟩
    replace HT := hide (HD.out.tb HT.out b3)
    replace B2 := hide (below_step B2.out b3)
    clear b3 K1
    have K1 := hide (HD.out.ahead f y z _ w9 HT.out HLg.out ry rz)
    rw [Hyz.out] at K1
    go_wp2_with fail
    refine K1.out.mono ?_; rintro e w10 ⟨rfl, b3⟩
    replace HT := hide (HD.out.tb HT.out b3)
    replace B2 := hide (below_step B2.out b3)
    clear b3 K1
    have K1 := hide (HD.out.ahead f x y _ w10 HT.out HLg.out rx ry)
    rw [Hxy.out] at K1
    go_wp2_with fail
    refine K1.out.mono ?_; rintro e w11 ⟨rfl, b3⟩
    replace HT := hide (HD.out.tb HT.out b3)
    replace B2 := hide (below_step B2.out b3)
    clear b3 K1
    have K1 := hide (HD.out.ahead f 0 x _ w11 HT.out HLg.out r0 rx)
    rw [HF.out] at K1
    go_wp2_with fail
    refine K1.out.mono ?_; rintro e w12 ⟨rfl, b3⟩
    replace HT := hide (HD.out.tb HT.out b3)
    replace B2 := hide (below_step B2.out b3)
    clear b3 K1
    have K1 := hide (HD.out.ahead f x x _ w12 HT.out HLg.out rx rx)
    rw [Hq.out] at K1
    go_wp2_with fail
    refine K1.out.mono ?_; rintro e w13 ⟨rfl, b3⟩
    replace HT := hide (HD.out.tb HT.out b3)
    replace B2 := hide (below_step B2.out b3)
    clear b3 K1
    have HW2 := hide (HWk.out w13 (HD.out.gb HGw.out B2.out))
    go_wp2_with fail
    refine HW2.out.mono ?_; rintro e w14 ⟨rfl, b3⟩
    replace B2 := hide (below_step B0.out (below_step B2.out b3))
    clear b3 HW2
    go_wp2_with fail
    go_ret
    exact ⟨rfl, B2.out⟩
  · have Hxy := hide hxy
    have Hyz := hide hyz
    have Hxz := hide hxz
    have Hyx := hide hyx
    have hne : (x != y) = false := by simpa using HAn.out hxy hyx
    clear hxy hyz hxz hyx HTr HAn HCh
    have K1 := hide (HD.out.ahead f x y _ w3 HT.out HLg.out rx ry)
    rw [Hxy.out] at K1
    go_wp2_with fail
    refine K1.out.mono ?_; rintro e w4 ⟨rfl, b3⟩
    replace HT := hide (HD.out.tb HT.out b3)
    replace B2 := hide (below_step B2.out b3)
    clear b3 K1
    have K1 := hide (HD.out.ahead f y z _ w4 HT.out HLg.out ry rz)
    rw [Hyz.out] at K1
    go_wp2_with fail
    refine K1.out.mono ?_; rintro e w5 ⟨rfl, b3⟩
    replace HT := hide (HD.out.tb HT.out b3)
    replace B2 := hide (below_step B2.out b3)
    clear b3 K1
    have K1 := hide (HD.out.ahead f x z _ w5 HT.out HLg.out rx rz)
    rw [Hxz.out] at K1
    go_wp2_with fail
    refine K1.out.mono ?_; rintro e w6 ⟨rfl, b3⟩
    replace HT := hide (HD.out.tb HT.out b3)
    replace B2 := hide (below_step B2.out b3)
    clear b3 K1
    have K1 := hide (HD.out.ahead f x y _ w6 HT.out HLg.out rx ry)
    rw [Hxy.out] at K1
    go_wp2_with fail
    refine K1.out.mono ?_; rintro e w7 ⟨rfl, b3⟩
    replace HT := hide (HD.out.tb HT.out b3)
    replace B2 := hide (below_step B2.out b3)
    clear b3 K1
    have K1 := hide (HD.out.ahead f y x _ w7 HT.out HLg.out ry rx)
    rw [Hyx.out] at K1
    go_wp2_with fail
    refine K1.out.mono ?_; rintro e w8 ⟨rfl, b3⟩
    replace HT := hide (HD.out.tb HT.out b3)
    replace B2 := hide (below_step B2.out b3)
    clear b3 K1
    have K1 := hide (HD.out.ahead f x z _ w8 HT.out HLg.out rx rz)
    rw [Hxz.out] at K1
    go_wp2_with fail
    refine K1.out.mono ?_; rintro e w9 ⟨rfl, b3⟩
    replace HT := hide (HD.out.tb HT.out b3)
    replace B2 := hide (below_step B2.out b3)
    clear b3 K1
    have K1 := hide (HD.out.ahead f y z _ w9 HT.out HLg.out ry rz)
    rw [Hyz.out] at K1
    go_wp2_with fail
    refine K1.out.mono ?_; rintro e w10 ⟨rfl, b3⟩
    replace HT := hide (HD.out.tb HT.out b3)
    replace B2 := hide (below_step B2.out b3)
    clear b3 K1
    have K1 := hide (HD.out.ahead f x y _ w10 HT.out HLg.out rx ry)
    rw [Hxy.out] at K1
    go_wp2_with fail
    refine K1.out.mono ?_; rintro e w11 ⟨rfl, b3⟩
    replace HT := hide (HD.out.tb HT.out b3)
    replace B2 := hide (below_step B2.out b3)
    clear b3 K1
    have K1 := hide (HD.out.ahead f 0 x _ w11 HT.out HLg.out r0 rx)
    rw [HF.out] at K1
    go_wp2_with fail
    refine K1.out.mono ?_; rintro e w12 ⟨rfl, b3⟩
    replace HT := hide (HD.out.tb HT.out b3)
    replace B2 := hide (below_step B2.out b3)
    clear b3 K1
    have K1 := hide (HD.out.ahead f x x _ w12 HT.out HLg.out rx rx)
    rw [Hq.out] at K1
    go_wp2_with fail
    refine K1.out.mono ?_; rintro e w13 ⟨rfl, b3⟩
    replace HT := hide (HD.out.tb HT.out b3)
    replace B2 := hide (below_step B2.out b3)
    clear b3 K1
    have HW2 := hide (HWk.out w13 (HD.out.gb HGw.out B2.out))
    go_wp2_with fail
    refine HW2.out.mono ?_; rintro e w14 ⟨rfl, b3⟩
    replace B2 := hide (below_step B0.out (below_step B2.out b3))
    clear b3 HW2
    go_wp2_with fail
    go_ret
    exact ⟨rfl, B2.out⟩
end Go.Proofs.Ytnlcpfijfjbgjaa
namespace Go.Proofs.Ytnlcpfijfjbgjaa
open Go Go.RowKit
open Go.ChangeShapes Go.WideShapes Go.ChangeAt
/-- Bytes that lie one by one. -/
def BytesV (w : World) (l : List Int) (v : Value) : Prop := ∃ ao c, v = .slice ao l.length c ∧ (l = [] ∨ ∃ b o, ao = some ⟨b, o, none⟩ ∧ b < w.heap.size ∧ ∀ (i : Nat) (n : Int), l[i]? = some n → w.cell? ⟨b, o + i, none⟩ = some (.int .u8 n)) ∧ l.length ≤ maxLen
theorem BytesV.below {w w' : World} {l : List Int} {v : Value} (h : BytesV w l v) (hb : Below w.heap.size w w') : BytesV w' l v := by
  obtain ⟨ao, c, e, h1, h2⟩ := h
  refine ⟨ao, c, e, ?_, h2⟩
  rcases h1 with h1 | ⟨b, o, e2, hl, hc⟩
  · exact .inl h1
  · exact .inr ⟨b, o, e2, Nat.lt_of_lt_of_le hl hb.size, fun i n hi => (hb.cell (p := ⟨b, o + i, none⟩) hl).trans (hc i n hi)⟩
theorem u8_wf {n : Int} (h : (Lit.int .u8 n).wf = true) : 0 ≤ n ∧ n < 256 := by
  simp [Lit.wf, IntKind.min, IntKind.max, IntKind.bits, IntKind.signed] at h
  omega
end Go.Proofs.Ytnlcpfijfjbgjaa
