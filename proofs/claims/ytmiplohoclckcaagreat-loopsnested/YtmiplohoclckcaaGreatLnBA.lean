/- Layer 10: the law LoopsNested. Layer 10, mathematics: a loop's blocks, gathered against the edges. -/
import Derived.Test.YtmiplohoclckcaaGreatLnAI
import Derived.Test.YtmiplohoclckcaaGreatLnAO
import Derived.Test.YtmiplohoclckcaaGreatLnAZ
namespace Go.Proofs.YtmiplohoclckcaaGreat
open Go Go.RowKit
open G (Tok Er Ins Fun)
open Mix (Up)
theorem nested_loops {f : Fun} (h : Lgt9 f) {I J : Nat} (hI : I < (loopsF f).length) (hJ : J < (loopsF f).length) (hne : I ≠ J) {k : Int} (h1 : hasL (lpN (loopsF f) I).2.1 k = true) (h2 : hasL (lpN (loopsF f) J).2.1 k = true) (h3 : aheadB (succsF f) k k = true) :
    hasL (lpN (loopsF f) I).2.1 (lpN (loopsF f) J).1 = true ∨ hasL (lpN (loopsF f) J).2.1 (lpN (loopsF f) I).1 = true := by
  obtain ⟨a, _, ea, eab, _, hab⟩ := mem_loops (List.mem_of_getElem? (lpN_at hI))
  obtain ⟨b, _, eb, ebb, _, hbb⟩ := mem_loops (List.mem_of_getElem? (lpN_at hJ))
  have hn : (a : Int) ≠ b := fun e => hne (heads_apart (lpN_at hI) (lpN_at hJ) (by rw [ea, eb, e]))
  rw [hasL_mem] at h1 h2
  rw [eab] at h1
  rw [ebb] at h2
  rw [hasL_mem, hasL_mem, eab, ebb, ea, eb]
  exact nested_any (lgt_tos h.1) (lgt_pos h.1) hab hbb h1 h2 ((ahead_iff h.gr k k).1 h3).1 hn
theorem heads_ne {f : Fun} {I J : Nat} (hI : I < (loopsF f).length) (hJ : J < (loopsF f).length) (hne : I ≠ J) : (lpN (loopsF f) I).1 ≠ (lpN (loopsF f) J).1 := fun e => hne (heads_apart (lpN_at hI) (lpN_at hJ) e)
set_option maxHeartbeats 8000000 in
set_option maxRecDepth 20000 in
theorem lawNested10 {G : World → Prop} (D : Lps G) (f : Fun) (v : Value) (w : World) (hv : FunV w f v) (hg : GyF f) (hG : G w) :
    Calls Tryz.prog 5 #[v] w fun e w' => e = .returned (.bool true) ∧ Below w.heap.size w w' := by
  have hv2 := hv
  obtain ⟨vp, vb, rfl, _, _⟩ := hv2
  have b0 := below_box w (.cells #[.string (bs f.1), vp, .int .i64 f.2.2.1, vb, .int .i64 f.2.2.2.2] 25)
  have X0 := hide (L5.Box.new w [.string (bs f.1), vp, .int .i64 f.2.2.1, vb, .int .i64 f.2.2.2.2] 25)
  have HV := hide (hv.below b0)
  have B0 := hide b0
  have HG := hide hg
  have HGw := hide (D.gb hG b0)
  have HD := hide D
  have HWk := hide (fun w (h : G w) => works10_any D w h)
  clear b0 hv hg hG D
  obtain ⟨lp, cp, rfl⟩ : ∃ ao c, vp = .slice ao f.2.1.length c := by
    obtain ⟨vp', vb', e, ⟨ao, c, e2, _⟩, _⟩ := HV.out
    injection e with e
    have e1 := congrArg (fun a => a[1]?) e
    simp at e1
    exact ⟨ao, c, by rw [e1, e2]⟩
  obtain ⟨lb, cb, rfl⟩ : ∃ ao c, vb = .slice ao f.2.2.2.1.length c := by
    obtain ⟨vp', vb', e, _, ⟨ao, c, e2, _⟩⟩ := HV.out
    injection e with e
    have e1 := congrArg (fun a => a[3]?) e
    simp at e1
    exact ⟨ao, c, by rw [e1, e2]⟩
  have HLt := hide (light9_any f _ _ HV.out HG.out)
  have HLl : Hid (Lgt9 f → 0 < f.2.2.2.1.length ∧ f.2.2.2.1.length ≤ 10 ∧ (loopsF f).length ≤ 10) := hide (fun h => ⟨lgt_pos h.1, h.2, Nat.le_trans (loopsF_len f) h.2⟩)
  generalize bs f.1 = nm at *
  generalize f.2.1.length = lps at *
  generalize f.2.2.1 = rt at *
  obtain ⟨lbs, hlbs⟩ : ∃ n, n = f.2.2.2.1.length := ⟨_, rfl⟩
  rw [← hlbs] at X0 HV B0 HGw HLt HLl ⊢
  have HLb := hide hlbs
  clear hlbs
  generalize f.2.2.2.2 = pl at *
  go_enter Tryz.func5, Tryz.ntmps5
  go_upto_region 1 with fail
  show Code.wp _ _ _ _ (w.alloc (.cells #[.string nm, .slice lp lps cp, .int .i64 rt, .slice lb lbs cb, .int .i64 pl] 25))
  replace X0 : Hid (L5.Box (w.alloc (.cells #[.string nm, .slice lp lps cp, .int .i64 rt, .slice lb lbs cb, .int .i64 pl] 25)) w.heap.size [.string nm, .slice lp lps cp, .int .i64 rt, .slice lb lbs cb, .int .i64 pl]) := X0
  generalize w.alloc (.cells #[.string nm, .slice lp lps cp, .int .i64 rt, .slice lb lbs cb, .int .i64 pl] 25) = W at *
  obtain ⟨x0, x1, x2, x3, x4⟩ : _ ∧ _ ∧ _ ∧ _ ∧ _ := ⟨X0.out.2 0 _ rfl, X0.out.2 1 _ rfl, X0.out.2 2 _ rfl, X0.out.2 3 _ rfl, X0.out.2 4 _ rfl⟩
  go_wp2_with fail
  refine HLt.out.mono ?_; rintro e w1 ⟨he, b1⟩
  have B1 := hide b1
  clear x0 x1 x2 x3 x4 HLt b1
  rcases he with rfl | ⟨rfl, hl⟩
  · have HW2 := hide (HWk.out w1 (HD.out.gb HGw.out B1.out))
    go_wp2_with fail
    refine HW2.out.mono ?_; rintro e w3 ⟨rfl, b3⟩
    have HE := hide (below_step B0.out (below_step B1.out b3))
    clear b3
    go_wp2_with fail
    go_ret
    exact ⟨rfl, HE.out⟩
  obtain ⟨hn0, hn1, hll⟩ := HLl.out hl
  have HLg := hide hl
  clear hl HLl HG
  have HV1 := hide (HV.out.below B1.out)
  have HO := hide (HD.out.of f _ w1 (HD.out.gb HGw.out B1.out) HV1.out HLg.out)
  obtain ⟨x0, x1, x2, x3, x4⟩ : _ ∧ _ ∧ _ ∧ _ ∧ _ := ⟨(X0.out.below B1.out).2 0 _ rfl, (X0.out.below B1.out).2 1 _ rfl, (X0.out.below B1.out).2 2 _ rfl, (X0.out.below B1.out).2 3 _ rfl, (X0.out.below B1.out).2 4 _ rfl⟩
  go_wp2_with fail
  refine HO.out.mono ?_; rintro e w2 ⟨lv, rfl, hL, b2⟩
  have B2 := hide (below_step B1.out b2)
  have H3 := hide hL
  obtain ⟨ra, rc, rfl, _⟩ := hL
  clear x0 x1 x2 x3 x4 HO b2 B1
  have HO := hide (rtable_any f _ w2 (HV.out.below B2.out) (lgt_ful HLg.out.1) HLg.out.gr)
  obtain ⟨x0, x1, x2, x3, x4⟩ : _ ∧ _ ∧ _ ∧ _ ∧ _ := ⟨(X0.out.below B2.out).2 0 _ rfl, (X0.out.below B2.out).2 1 _ rfl, (X0.out.below B2.out).2 2 _ rfl, (X0.out.below B2.out).2 3 _ rfl, (X0.out.below B2.out).2 4 _ rfl⟩
  go_wp2_with fail
  refine HO.out.mono ?_; rintro e w8 ⟨tv, rfl, hT, b2⟩
  replace B2 := hide (below_step B2.out b2)
  replace H3 := hide (H3.out.below b2)
  have HT := hide hT
  obtain ⟨tb, to, tc, rfl, _, _⟩ := hT
  clear x0 x1 x2 x3 x4 HO b2 HV1
  have HC : Hid (∀ I, I < (loopsF f).length → ∃ g o, ra = some ⟨g, o, none⟩ ∧ LpR w8 (lpN (loopsF f) I) g (o + I * 4)) := hide (fun I hI => by
    obtain ⟨a', c', e, _, _, h3⟩ := H3.out
    injection e with e1 _ _
    subst e1
    exact LoopsV.at h3 hI)
  have HGa := hide (fun z (b : Below W.heap.size W z) => HD.out.gb HGw.out b)
  have HAh := hide (fun (a b : Int) (z : World) (h : Below w8.heap.size w8 z) => rahead_any (succsF f) a b _ z (HT.out.below h) HLg.out.gr)
  obtain ⟨n, hn⟩ : ∃ n, (loopsF f).length = n := ⟨_, rfl⟩
  have Hn := hide hn
  rw [hn] at hll HC ⊢
  clear hn
  go_wp2_with fail
  go_loopw [5] (fun i wr => ∃ I : Nat, I ≤ n ∧ i = .int .i64 I ∧ Hid (Below w8.heap.size w8 wr)) (fun i _ => n - (intOf i).toNat)
  case atStart => exact ⟨0, Nat.zero_le _, rfl, hide (Below.refl _ _)⟩
  case round =>
    obtain ⟨I, hI, rfl, HW1⟩ := hrel
    by_cases hit : I < n
    · have hiI : (I : Int) < n := by omega
      obtain ⟨g, o, rfl, hrI⟩ := HC.out I hit
      obtain ⟨vbI, vkI, hgl, a0, a1, _, _, ibI, _⟩ := lp_all hrI
      obtain ⟨bo, bc, rfl, sI, sI1, sI2⟩ := ibI
      have hbl := Nat.le_trans sI1 sI2
      go_wp2_with fail
      go_loopw [6] (fun j wr => ∃ J : Nat, J ≤ I ∧ j = .int .i64 J ∧ Hid (Below w8.heap.size w8 wr)) (fun j _ => I - (intOf j).toNat)
      case atStart => exact ⟨0, Nat.zero_le _, rfl, HW1⟩
      case round =>
        obtain ⟨J, hJ, rfl, HW2⟩ := hrel
        by_cases hjt : J < I
        · have hjI : (J : Int) < I := by omega
          have hjn : J < n := by omega
          have hjN : (J : Int) < n := by omega
          obtain ⟨g', o', e', hrJ⟩ := HC.out J hjn
          injection e' with e'
          injection e' with e1 e2
          subst e1 e2
          obtain ⟨vbJ, vkJ, _, d0, d1, _, _, ibJ, _⟩ := lp_all hrJ
          obtain ⟨co, cc, rfl, sJ, sJ1, sJ2⟩ := ibJ
          have hcl := Nat.le_trans sJ1 sJ2
          have HNst := hide (fun (k : Int) h1 h2 h3 => nested_loops HLg.out (I := I) (J := J) (by rw [Hn.out]; exact hit) (by rw [Hn.out]; exact hjn) (by omega) (k := k) h1 h2 h3)
          have hne0 : (lpN (loopsF f) I).1 ≠ (lpN (loopsF f) J).1 := heads_ne (by rw [Hn.out]; exact hit) (by rw [Hn.out]; exact hjn) (by omega)
          have HHI := hide (fun (k : Int) (z : World) (b : Below w8.heap.size w8 z) => rhas_any (lpN (loopsF f) I).2.1 k bo bc z (sI.below b) hbl)
          have HHJ := hide (fun (k : Int) (z : World) (b : Below w8.heap.size w8 z) => rhas_any (lpN (loopsF f) J).2.1 k co cc z (sJ.below b) hcl)
          have HA0 := hide a0
          have HA1 := hide a1
          have HD0 := hide d0
          have HD1 := hide d1
          generalize (lpN (loopsF f) I).1 = yI at *
          generalize (lpN (loopsF f) J).1 = yJ at *
          generalize hLI : (lpN (loopsF f) I).2.1 = LI at *
          generalize hLJ : (lpN (loopsF f) J).2.1 = LJ at *
          have hne : (yI == yJ) = false := beq_eq_false_iff_ne.2 hne0
          have p0 := fun x => ((below_step HW2.out (L5.grewTo_below wr x)).cell (p := ⟨g, o + I * 4, none⟩) hgl).trans HA0.out
          have q0 := fun x => ((below_step HW2.out (L5.grewTo_below wr x)).cell (p := ⟨g, o + J * 4, none⟩) hgl).trans HD0.out
          have HB := hide (fun x => below_step HW2.out (L5.grewTo_below wr x))
          clear a0 a1 d0 d1 hne0 hrJ HW2 sJ sJ1 sJ2
          go_wp2_with fail
          refine L5.region_grew (by kernel_rfl) (by kernel_rfl) ?_
          repeat (go_big_quiet_step (fail))
          refine wpQuiet_nil ?_
          rintro _ ⟨x, rfl⟩
          replace HW2 := hide (HB.out x)
          clear p0 q0 HB hne
          go_wp2_with fail
          obtain ⟨w9, hw9⟩ : ∃ w9, w9 = L5.grewTo wr x := ⟨_, rfl⟩
          rw [← hw9] at HW2 ⊢
          clear hw9
          go_loopw [7] (fun k wr => ∃ K : Nat, K ≤ lbs ∧ k = .int .i64 K ∧ Hid (Below w8.heap.size w8 wr)) (fun k _ => lbs - (intOf k).toNat)
          case atStart => exact ⟨0, Nat.zero_le _, rfl, HW2⟩
          case round =>
            obtain ⟨K, hK, rfl, HW3⟩ := hrel
            have x3 := (X0.out.below (below_step B2.out HW3.out)).2 3 _ rfl
            by_cases hkt : K < lbs
            · have hkI : (K : Int) < lbs := by omega
              have c1 := (HW3.out.cell (p := ⟨g, o + I * 4 + 1, none⟩) hgl).trans HA1.out
              have c2 := (HW3.out.cell (p := ⟨g, o + J * 4 + 1, none⟩) hgl).trans HD1.out
              have S1 := hide (HHI.out K wr HW3.out)
              have S2 := hide (HHJ.out K wr HW3.out)
              have S3 := hide (HAh.out K K wr HW3.out)
              have HN := hide (HNst.out K)
              have HB := hide (fun x => below_step HW3.out (L5.grewTo_below wr x))
              cases h1 : hasL LI K with
              | false =>
                rw [h1] at S1
                clear h1 HN
                go_wp2_with fail
                refine S1.out.mono ?_; rintro e wq ⟨rfl, rfl⟩
                clear S1 S2 S3 c1 c2 x3
                go_wp2_with fail
                refine L5.region_grew (by kernel_rfl) (by kernel_rfl) ?_
                repeat (go_big_quiet_step (fail))
                refine wpQuiet_nil ?_
                rintro _ ⟨x, rfl⟩
                go_wp2_with fail
                go_roundw
                case rel => exact ⟨K + 1, by omega, by go_num, hide (HB.out x)⟩
                case measure => simp [intOf]; omega
              | true =>
                rw [h1] at S1
                cases h2 : hasL LJ K with
                | false =>
                  rw [h2] at S2
                  clear h1 h2 HN
                  go_wp2_with fail
                  refine S1.out.mono ?_; rintro e wq ⟨rfl, rfl⟩
                  go_wp2_with fail
                  refine S2.out.mono ?_; rintro e wq ⟨rfl, rfl⟩
                  clear S1 S2 S3 c1 c2 x3
                  go_wp2_with fail
                  refine L5.region_grew (by kernel_rfl) (by kernel_rfl) ?_
                  repeat (go_big_quiet_step (fail))
                  refine wpQuiet_nil ?_
                  rintro _ ⟨x, rfl⟩
                  go_wp2_with fail
                  go_roundw
                  case rel => exact ⟨K + 1, by omega, by go_num, hide (HB.out x)⟩
                  case measure => simp [intOf]; omega
                | true =>
                  rw [h2] at S2
                  cases h3 : aheadB (succsF f) K K with
                  | false =>
                    rw [h3] at S3
                    clear h1 h2 h3 HN
                    go_wp2_with fail
                    refine S1.out.mono ?_; rintro e wq ⟨rfl, rfl⟩
                    go_wp2_with fail
                    refine S2.out.mono ?_; rintro e wq ⟨rfl, rfl⟩
                    go_wp2_with fail
                    refine S3.out.mono ?_; rintro e wq ⟨rfl, rfl⟩
                    clear S1 S2 S3 c1 c2 x3
                    go_wp2_with fail
                    refine L5.region_grew (by kernel_rfl) (by kernel_rfl) ?_
                    repeat (go_big_quiet_step (fail))
                    refine wpQuiet_nil ?_
                    rintro _ ⟨x, rfl⟩
                    go_wp2_with fail
                    go_roundw
                    case rel => exact ⟨K + 1, by omega, by go_num, hide (HB.out x)⟩
                    case measure => simp [intOf]; omega
                  | true =>
                    rw [h3] at S3
                    have hor := HN.out h1 h2 h3
                    clear h1 h2 h3 HN
                    go_wp2_with fail
                    refine S1.out.mono ?_; rintro e wq ⟨rfl, rfl⟩
                    go_wp2_with fail
                    refine S2.out.mono ?_; rintro e wq ⟨rfl, rfl⟩
                    go_wp2_with fail
                    refine S3.out.mono ?_; rintro e wq ⟨rfl, rfl⟩
                    clear S1 S2 S3 c1 c2 x3
                    have p0 := fun x => ((HB.out x).cell (p := ⟨g, o + I * 4, none⟩) hgl).trans HA0.out
                    have p1 := fun x => ((HB.out x).cell (p := ⟨g, o + I * 4 + 1, none⟩) hgl).trans HA1.out
                    have q0 := fun x => ((HB.out x).cell (p := ⟨g, o + J * 4, none⟩) hgl).trans HD0.out
                    have q1 := fun x => ((HB.out x).cell (p := ⟨g, o + J * 4 + 1, none⟩) hgl).trans HD1.out
                    have R1 := hide (fun x => HHI.out yJ (L5.grewTo wq x) (HB.out x))
                    have R2 := hide (fun x => HHJ.out yI (L5.grewTo wq x) (HB.out x))
                    go_wp2_with fail
                    cases h4 : hasL LI yJ with
                    | true =>
                      rw [h4] at R1
                      clear h4 hor R2
                      refine L5.region_grew (by kernel_rfl) (by kernel_rfl) ?_
                      repeat (go_big_quiet_step (first | (go_at_call 19; with_reducible exact L5.calls_grew_same (R1.out _))))
                      refine wpQuiet_nil ?_
                      rintro _ ⟨x, rfl⟩
                      go_wp2_with fail
                      go_roundw
                      case rel => exact ⟨K + 1, by omega, by go_num, hide (HB.out x)⟩
                      case measure => simp [intOf]; omega
                    | false =>
                      rw [h4] at R1
                      have h5 : hasL LJ yI = true := by
                        rcases hor with h | h
                        · rw [h4] at h; cases h
                        · exact h
                      rw [h5] at R2
                      clear h4 h5 hor
                      refine L5.region_grew (by kernel_rfl) (by kernel_rfl) ?_
                      repeat (go_big_quiet_step (first | (go_at_call 19; with_reducible exact L5.calls_grew_same (R1.out _)) | (go_at_call 19; with_reducible exact L5.calls_grew_same (R2.out _))))
                      refine wpQuiet_nil ?_
                      rintro _ ⟨x, rfl⟩
                      go_wp2_with fail
                      go_roundw
                      case rel => exact ⟨K + 1, by omega, by go_num, hide (HB.out x)⟩
                      case measure => simp [intOf]; omega
            · obtain hke : K = lbs := by omega
              have hkI : ¬ (K : Int) < lbs := by omega
              go_wp2_with fail
              go_roundw
              case rel => exact ⟨J + 1, by omega, by go_num, HW3⟩
              case measure => simp [intOf]; omega
        · have hjI : ¬ (J : Int) < I := by omega
          go_wp2_with fail
          go_roundw
          case rel => exact ⟨I + 1, by omega, by go_num, HW2⟩
          case measure => simp [intOf]; omega
    · have hiI : ¬ (I : Int) < n := by omega
      have HW2 := hide (HWk.out wr (HGa.out _ (below_step B2.out HW1.out)))
      go_wp2_with fail
      refine HW2.out.mono ?_; rintro e w9 ⟨rfl, b3⟩
      have HE := hide (below_step B0.out (below_step (below_step B2.out HW1.out) b3))
      clear b3 HW2
      go_wp2_with fail
      go_ret
      exact ⟨rfl, HE.out⟩
end Go.Proofs.YtmiplohoclckcaaGreat
namespace Go.Proofs.YtmiplohoclckcaaGreat
open Go Go.RowKit
open G (Tok Er Ins Fun)
theorem predTo_mem {f : Fun} {b : Nat} {K : Nat} {k : Int} : k ∈ predTo f b K ↔ ∃ J : Nat, k = J ∧ J < K ∧ (b : Int) ∈ nextF f J := by
  unfold predTo
  simp only [List.mem_map, List.mem_filter, List.mem_range, hasL_mem]
  constructor
  · rintro ⟨J, ⟨h1, h2⟩, rfl⟩; exact ⟨J, rfl, h1, h2⟩
  · rintro ⟨J, rfl, h1, h2⟩; exact ⟨J, ⟨h1, h2⟩, rfl⟩
theorem predsF_at {f : Fun} {b : Nat} (hb : b < f.2.2.2.1.length) : (predsF f).getD b [] = predTo f b f.2.2.2.1.length := by
  unfold predsF
  simp [List.getD_eq_getElem?_getD, List.getElem?_map, List.getElem?_range hb]
/-- The blocks that go to a head, and of which it stands ahead: just its blocks that go back. -/
theorem backs_preds (f : Fun) (h : Nat) (hh : h < f.2.2.2.1.length) : ((predsF f).getD h []).filter (fun k => aheadB (succsF f) h k) = backsOf f h := by
  rw [predsF_at hh]
  unfold predTo backsOf backsK
  rw [List.filter_map, List.filter_filter]
  congr 1
  apply List.filter_congr
  intro x _
  simp [Bool.and_comm]
theorem rev_iff {ll pp : List (List Int)} {h k : Int} {bs : List Int} (H : ∀ a b : Int, 0 ≤ a → a < ll.length → 0 ≤ b → b < ll.length → (a ∈ pp.getD b.toNat [] ↔ b ∈ ll.getD a.toNat []))
    (hn : ∀ a b : Int, b ∈ ll.getD a.toNat [] → 0 ≤ b ∧ b < ll.length) (pn : ∀ a b : Int, b ∈ pp.getD a.toNat [] → 0 ≤ b ∧ b < ll.length) (hb : ∀ b ∈ bs, 0 ≤ b ∧ b < ll.length) (hk : 0 ≤ k ∧ k < ll.length) :
    Rch pp bs h k ↔ ∃ b ∈ bs, Rch ll [k] h b := by
  constructor
  · intro hr
    have key := Rch.rec' (ll := pp) (frm := bs) (but := h) (Q := fun m => (0 ≤ m ∧ m < ll.length) ∧ ∃ b ∈ bs, Rch ll [m] h b) (fun m hm hne => ⟨hb m hm, m, hm, Rch.start (by simp) hne⟩) (fun b c _ hq hc hne => by
      obtain ⟨hbr, b', hb', hr'⟩ := hq
      have hcr := pn b c hc
      refine ⟨hcr, b', hb', ?_⟩
      have he := (H c b hcr.1 hcr.2 hbr.1 hbr.2).1 hc
      have h1 : Rch ll [c] h b := by
        refine (Rch.start (by simp) hne : Rch ll [c] h c).step he ?_
        have hs : ∀ m, Rch ll [b] h m → b ≠ h := by
          intro m hm
          exact Rch.rec' (Q := fun _ => b ≠ h) (fun m hm hne => by simp at hm; subst hm; exact hne) (fun _ _ _ q _ _ => q) m hm
        exact hs _ hr'
      exact h1.join hr') k hr
    exact key.2
  · rintro ⟨b, hbm, hr⟩
    have hkr := hk
    have key := Rch.rec' (ll := ll) (frm := [k]) (but := h) (Q := fun m => (0 ≤ m ∧ m < ll.length) ∧ (Rch pp bs h m → Rch pp bs h k)) (fun m hm _ => by
      simp at hm
      subst hm
      exact ⟨hkr, id⟩) (fun x c hx hq hc hne => by
      have hcr := hn x c hc
      refine ⟨hcr, fun hcp => hq.2 (hcp.step ?_ hx.ne)⟩
      exact (H x c hq.1.1 hq.1.2 hcr.1 hcr.2).2 hc) b hr
    exact key.2 (Rch.start hbm hr.ne)
end Go.Proofs.YtmiplohoclckcaaGreat
