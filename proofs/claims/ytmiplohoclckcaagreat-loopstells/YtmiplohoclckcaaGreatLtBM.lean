/- Layer 10, the program: Entry. Layer 10, the program: all that is asked of its functions. -/
import Derived.Test.YtmiplohoclckcaaGreatLtBE
import Derived.Test.YtmiplohoclckcaaGreatLtBK
import Derived.Test.YtmiplohoclckcaaGreatLtBL
namespace Go.Proofs.YtmiplohoclckcaaGreat
open Go Go.RowKit
open G (Tok Er Ins Fun)
theorem ret_i {a b : Int} (h : a = b) : Ending.returned (.int .i64 a) = .returned (.int .i64 b) := by rw [h]
set_option maxHeartbeats 4000000 in
set_option maxRecDepth 20000 in
theorem entry_any (f : Fun) (x : Lp) (v xv : Value) (w : World) (hv : FunV w f v) (hx : LoopV w x xv) (hF : Ful f) (hT : Tos f) (hN : f.2.2.2.1.length ≤ 1000) (hs : Srt x.2.1) :
    Calls Tryz.prog 16 #[v, xv] w fun e w' => e = .returned (.int .i64 (entryF f x)) ∧ Below w.heap.size w w' := by
  have hmf : ∀ (fn : Fn) (first cap : Array Value) (w : World), (Instr.makeFunc fn first cap).run Tryz.prog w = .ok (.func fn first cap) w := fun _ _ _ _ => rfl
  have HCe := hide (fun v w hv => edges_any f v w hv hF hT hN)
  have HEl : (edgesF f).length ≤ 1000000 := by
    have h1 := edgesK_len hT f.2.2.2.1.length
    have h2 : f.2.2.2.1.length * f.2.2.2.1.length ≤ 1000 * 1000 := Nat.mul_le_mul hN hN
    exact Nat.le_trans h1 (by omega)
  have hv2 := hv
  obtain ⟨vp, vb, rfl, ⟨lp, cp, rfl, _⟩, ⟨lb, cb, rfl, _⟩⟩ := hv2
  have hx2 := hx
  obtain ⟨xb, xk, rfl, ⟨xo, xc, rfl, _⟩, ⟨zo, zc, rfl, _⟩⟩ := hx2
  clear hF hT
  generalize hnm : bs f.1 = nm at *
  generalize hlps : f.2.1.length = lps at *
  generalize hrt : f.2.2.1 = rt at *
  generalize hlbs : f.2.2.2.1.length = lbs at *
  generalize hpl : f.2.2.2.2 = pl at *
  clear hnm hlps hrt hlbs hpl
  have b1 := below_box w (.cells #[.string nm, .slice lp lps cp, .int .i64 rt, .slice lb lbs cb, .int .i64 pl] 25)
  have X1 := L5.Box.new w [.string nm, .slice lp lps cp, .int .i64 rt, .slice lb lbs cb, .int .i64 pl] 25
  have b2 := below_box (w.alloc (.cells #[.string nm, .slice lp lps cp, .int .i64 rt, .slice lb lbs cb, .int .i64 pl] 25)) (.cells #[.int .i64 x.1, .slice xo x.2.1.length xc, .slice zo x.2.2.1.length zc, .int .i64 x.2.2.2] 36)
  have hs1 : (w.alloc (.cells #[.string nm, .slice lp lps cp, .int .i64 rt, .slice lb lbs cb, .int .i64 pl] 25)).heap.size = w.heap.size + 1 := by simp
  have HX0 := heap_alloc_new (w.alloc (.cells #[.string nm, .slice lp lps cp, .int .i64 rt, .slice lb lbs cb, .int .i64 pl] 25)) (.cells #[.int .i64 x.1, .slice xo x.2.1.length xc, .slice zo x.2.2.1.length zc, .int .i64 x.2.2.2] 36)
  rw [hs1] at HX0
  have HX : Hid (LpBox ((w.alloc (.cells #[.string nm, .slice lp lps cp, .int .i64 rt, .slice lb lbs cb, .int .i64 pl] 25)).alloc (.cells #[.int .i64 x.1, .slice xo x.2.1.length xc, .slice zo x.2.2.1.length zc, .int .i64 x.2.2.2] 36)) (w.heap.size + 1) x xo zo xc zc) := hide ⟨HX0, hx.below (below_step b1 b2)⟩
  have X0 : Hid (L5.Box ((w.alloc (.cells #[.string nm, .slice lp lps cp, .int .i64 rt, .slice lb lbs cb, .int .i64 pl] 25)).alloc (.cells #[.int .i64 x.1, .slice xo x.2.1.length xc, .slice zo x.2.2.1.length zc, .int .i64 x.2.2.2] 36)) w.heap.size [.string nm, .slice lp lps cp, .int .i64 rt, .slice lb lbs cb, .int .i64 pl]) := hide (X1.below b2)
  have HV := hide (hv.below (below_step b1 b2))
  have B0 := hide (below_step b1 b2)
  clear b1 X1 b2 hs1 HX0 hv hx
  go_enter Tryz.func16, Tryz.ntmps16
  go_upto_region 1 with fail
  show Code.wp _ _ _ _ ((w.alloc (.cells #[.string nm, .slice lp lps cp, .int .i64 rt, .slice lb lbs cb, .int .i64 pl] 25)).alloc (.cells #[.int .i64 x.1, .slice xo x.2.1.length xc, .slice zo x.2.2.1.length zc, .int .i64 x.2.2.2] 36))
  generalize (w.alloc (.cells #[.string nm, .slice lp lps cp, .int .i64 rt, .slice lb lbs cb, .int .i64 pl] 25)).alloc (.cells #[.int .i64 x.1, .slice xo x.2.1.length xc, .slice zo x.2.2.1.length zc, .int .i64 x.2.2.2] 36) = W at *
  generalize hq : w.heap.size = q at *
  obtain ⟨x0, x1, x2, x3, x4⟩ : _ ∧ _ ∧ _ ∧ _ ∧ _ := ⟨X0.out.2 0 _ rfl, X0.out.2 1 _ rfl, X0.out.2 2 _ rfl, X0.out.2 3 _ rfl, X0.out.2 4 _ rfl⟩
  have HC := hide (HCe.out _ W HV.out)
  go_wp2_with fail
  refine HC.out.mono ?_; rintro e w1 ⟨u, rfl, hu, b1⟩
  have HIx := hide (index_any x (edgesF f) HEl (q + 1) xo zo xc zc u w1 hu (HX.out.below b1) hs)
  have HB1 := hide b1
  have HU := hide hu
  obtain ⟨eo, ec, rfl, _, _⟩ := hu
  clear x0 x1 x2 x3 x4 HC HCe b1 X0 HV
  go_wp2_with fail
  refine HIx.out.mono ?_; rintro e w2 ⟨⟨r, rfl, hr⟩, b2⟩
  have HB2 : Hid (Below W.heap.size W w2) := hide (below_step HB1.out b2)
  have HU2 := hide (HU.out.below b2)
  have HX2 := hide (HX.out.below HB2.out)
  clear HIx b2 HB1 HU HX
  have B2 : Hid (Below w.heap.size w w2) := hide (by have h := B0.out; rw [← hq] at h; exact below_step h HB2.out)
  clear B0 HB2
  rcases hr with ⟨rfl, hno⟩ | ⟨I, e0, rfl, hI, hb0⟩
  · have HE := hide (entry_no hno)
    clear hno
    go_wp2_with fail
    go_ret
    exact ⟨ret_i HE.out.symm, B2.out⟩
  · have hIl : I < (edgesF f).length := (List.getElem?_eq_some_iff.1 hI).1
    have hII : (I : Int) < (edgesF f).length := by omega
    obtain ⟨eo', ec', he', hpc, _⟩ := id HU2.out
    injection he' with he1 he2 he3
    subst he1 he3
    rcases hpc with he | ⟨g, rfl, hg, hc⟩
    · rw [he] at hIl; simp at hIl
    obtain ⟨c0, c1⟩ := hc I e0 hI
    have HCs := hide (fun w' (b : Below w2.heap.size w2 w') (i : Nat) (p : Int × Int) (hi : (edgesF f)[i]? = some p) => And.intro ((b.cell (p := ⟨g, i * 2, none⟩) hg).trans (hc i p hi).1) ((b.cell (p := ⟨g, i * 2 + 1, none⟩) hg).trans (hc i p hi).2))
    have HM0 := hide (List.mem_of_getElem? hI)
    have HB0 := hide hb0
    clear hc hI hb0 he2
    go_upto_region 6 with fail
    show Code.wp _ _ _ _ (w2.alloc (.cells #[.int .i64 e0.1, .int .i64 e0.2] 61))
    have b3 := below_box w2 (.cells #[.int .i64 e0.1, .int .i64 e0.2] 61)
    have HE0 := hide (heap_alloc_new w2 (.cells #[.int .i64 e0.1, .int .i64 e0.2] 61))
    have HX3 := hide (HX2.out.below b3)
    have HB3 := hide b3
    clear c0 c1 b3 HX2
    generalize w2.alloc (.cells #[.int .i64 e0.1, .int .i64 e0.2] 61) = w3 at *
    go_wp2_with fail
    go_loopw [23] (fun i wr => ∃ K : Nat, K ≤ (edgesF f).length ∧ i = .int .i64 K ∧ Hid (∀ (j : Nat) (p : Int × Int), j < K → (edgesF f)[j]? = some p → p ≠ e0 → ¬ p.1 = e0.1 ∧ entB x p = false) ∧ Hid (Below w3.heap.size w3 wr)) (fun i _ => (edgesF f).length - (intOf i).toNat)
    case atStart => exact ⟨0, Nat.zero_le _, rfl, hide (fun j p h => absurd h (Nat.not_lt_zero _)), hide (Below.refl _ _)⟩
    case round =>
      obtain ⟨K, hK, rfl, HF, HW⟩ := hrel
      by_cases hkt : K < (edgesF f).length
      · have hkI : (K : Int) < (edgesF f).length := by omega
        obtain ⟨p, hp⟩ : ∃ p, (edgesF f)[K]? = some p := ⟨_, List.getElem?_eq_getElem hkt⟩
        obtain ⟨c0, c1⟩ := HCs.out wr (below_step HB3.out HW.out) K p hp
        have HPk := hide hp
        clear hp
        go_upto_region 9 with fail
        show Code.wp _ _ _ _ (wr.alloc (.cells #[.int .i64 p.1, .int .i64 p.2] 61))
        have b4 := below_box wr (.cells #[.int .i64 p.1, .int .i64 p.2] 61)
        have HPb := hide (heap_alloc_new wr (.cells #[.int .i64 p.1, .int .i64 p.2] 61))
        have HW4 := hide (below_step HW.out b4)
        clear c0 c1 b4 HW
        generalize wr.alloc (.cells #[.int .i64 p.1, .int .i64 p.2] 61) = w4 at *
        generalize wr.heap.size = q4 at *
        obtain ⟨⟨c0, c1⟩, _⟩ := two_of HPb.out
        obtain ⟨⟨d0, d1⟩, _⟩ := two_of ((HW4.out.block _ (two_of HE0.out).2).trans HE0.out)
        obtain ⟨⟨m0, m1, m2, m3⟩, _, _⟩ := four_of (HX3.out.below HW4.out).1
        have HPm : Hid (p ∈ edgesF f) := hide (List.mem_of_getElem? HPk.out)
        have B4 : Hid (Below w.heap.size w w4) := hide (below_step (below_step B2.out HB3.out) HW4.out)
        have HNx : Hid ((p ≠ e0 → ¬ p.1 = e0.1 ∧ entB x p = false) → ∀ (j : Nat) (p : Int × Int), j < K + 1 → (edgesF f)[j]? = some p → p ≠ e0 → ¬ p.1 = e0.1 ∧ entB x p = false) := hide (fun hn j p' hj hp' => by
          by_cases e : j = K
          · subst e
            have := HPk.out
            rw [hp'] at this
            injection this with this
            rw [this]; exact hn
          · exact HF.out j p' (by omega) hp')
        by_cases h1 : p.1 = e0.1
        · by_cases h2 : p.2 = e0.2
          · have HF2 := hide (HNx.out (fun hne => absurd (Prod.ext h1 h2) hne))
            rw [h1] at c0
            rw [h2] at c1
            clear h1 h2
            go_wp2_with fail
            go_roundw
            case rel => exact ⟨K + 1, by omega, by go_num, HF2, HW4⟩
            case measure => simp [intOf]; omega
          · have HE := hide (entry_bad HM0.out HB0.out HPm.out (fun e => h2 (by rw [e])) (.inl h1))
            rw [h1] at c0
            have h2' : (p.2 == e0.2) = false := beq_eq_false_iff_ne.2 h2
            clear h1
            go_wp2_with fail
            go_ret
            exact ⟨ret_i HE.out.symm, B4.out⟩
        · have h1' : (p.1 == e0.1) = false := beq_eq_false_iff_ne.2 h1
          have HH := hide (enters_any x p.1 p.2 _ w4 (HX3.out.below HW4.out).2 hs)
          cases hb : entB x p with
          | true =>
            have hb2 : entB x (p.1, p.2) = true := hb
            rw [hb2] at HH
            have HE := hide (entry_bad HM0.out HB0.out HPm.out (fun e => h1 (by rw [e])) (.inr hb))
            clear hb hb2
            go_wp2_with fail
            refine HH.out.mono ?_; rintro e w5 ⟨rfl, b5⟩
            have B5 := hide (below_step B4.out b5)
            clear HH b5 c0 c1 d0 d1 m0 m1 m2 m3
            go_wp2_with fail
            go_ret
            exact ⟨ret_i HE.out.symm, B5.out⟩
          | false =>
            have hb2 : entB x (p.1, p.2) = false := hb
            rw [hb2] at HH
            have HF2 := hide (HNx.out (fun _ => ⟨h1, hb⟩))
            clear hb hb2
            go_wp2_with fail
            refine HH.out.mono ?_; rintro e w5 ⟨rfl, b5⟩
            have HW5 := hide (below_step HW4.out b5)
            clear HH b5 c0 c1 d0 d1 m0 m1 m2 m3
            go_wp2_with fail
            go_roundw
            case rel => exact ⟨K + 1, by omega, by go_num, HF2, HW5⟩
            case measure => simp [intOf]; omega
      · obtain rfl : K = (edgesF f).length := by omega
        have HE : Hid (e0.1 = entryF f x) := hide (entry_good HM0.out HB0.out (fun p hp hne => by
          obtain ⟨j, hj⟩ := List.mem_iff_getElem?.1 hp
          exact HF.out j p (List.getElem?_eq_some_iff.1 hj).1 hj hne)).symm
        have B4 : Hid (Below w.heap.size w wr) := hide (below_step (below_step B2.out HB3.out) HW.out)
        obtain ⟨⟨d0, d1⟩, _⟩ := two_of ((HW.out.block _ (two_of HE0.out).2).trans HE0.out)
        go_wp2_with fail
        go_ret
        exact ⟨ret_i HE.out, B4.out⟩
end Go.Proofs.YtmiplohoclckcaaGreat
namespace Go.Proofs.YtmiplohoclckcaaGreat
open Go Go.RowKit
open G (Tok Er Ins Fun)
theorem lps_all : Lps (fun _ => True) := by
  have hN : ∀ {f : Fun}, Lgt9 f → f.2.2.2.1.length ≤ 1000000 := fun h => by have := h.2; omega
  refine ⟨fun _ _ => trivial, ?_, ?_, ?_, ?_⟩
  · intro f v w _ hv h
    exact lof_any f v w hv (lgt_ful h.1) (lgt_tos h.1) (lgt_pos h.1)
  · intro f k v w _ hv h _
    exact depth_any (loopsF f) k (Nat.le_trans (loopsF_len f) (hN h)) (upB_loops (hN h)) v w hv
  · intro f x v xv w _ hv hx hm h
    exact entry_any f x v xv w hv hx (lgt_ful h.1) (lgt_tos h.1) (by have := h.2; omega) (upB_loops (hN h) x hm)
  · intro f v w _ hv h
    exact inner_any (loopsF f) v w hv (by have := loopsF_len f; have := h.2; omega)
end Go.Proofs.YtmiplohoclckcaaGreat
