/- Layer 7, the reference: whether a program may be written: Whole. -/
import Derived.Test.YtahhbckccdigoaaGreatDoorMbBB
import Derived.Test.YtahhbckccdigoaaGreatDoorMbBI
set_option maxHeartbeats 8000000
set_option maxRecDepth 20000
namespace Go.Proofs.YtahhbckccdigoaaGreatDoor
open Go Go.RowKit
open G (Tok Er Ins Fun)
def finW (i : Nat) (x : Nat × Int) (r : List Fun) : Int × Int := if x.2 ≠ 0 then (x.2, (i : Int)) else wholeF (i + 1) x.1 r
theorem whole_fin {i m : Nat} {f : Fun} (r : List Fun) (hi : i ≠ 32) (hh : headC f = 0) : wholeF i m (f :: r) = finW i (runB m f.2.2.2.1) r := by
  rw [wholeF, if_neg hi, if_neg (by simp [hh])]; rfl
theorem fin_bad {i m : Nat} {z : Int} (r : List Fun) (h : z ≠ 0) : finW i (m, z) r = (z, (i : Int)) := by unfold finW; rw [if_pos h]
theorem fin_good (i m : Nat) (r : List Fun) : finW i (m, 0) r = wholeF (i + 1) m r := by unfold finW; simp
theorem rhead_any (i : Nat) (f : Fun) (v : Value) (w : World) (h : FunV w f v) (hO : OkF f) (hi : i <= 32) : Calls Tryz.prog 22 #[v, .int .i64 i] w fun e w' => e = .returned (.int .i64 (rheadC i f)) /\ Below w.heap.size w w' := by
  obtain ⟨nm, ps, rt, bl, pl⟩ := f
  obtain ⟨vp, vb, rfl, ⟨ao, c, rfl, h1, h2, h3⟩, ⟨bo, cb, rfl, h4, h5, _⟩⟩ := h
  exact rhead_try i nm ps rt pl bl ao bo c cb w h1 ⟨Nat.le_trans h2 h3, Nat.le_trans h4 h5⟩ hO.1 (by unfold maxLen; omega)
theorem rwhole_try (p : List Fun) (ao : Option Addr) (c : Nat) (w : World) (hp : ProgR w p (.slice ao p.length c)) (hO : ∀ f ∈ p, OkF f) :
    Calls Tryz.prog 8 #[.agg #[.slice ao p.length c]] w fun e w' => e = .returned (.agg #[.int .i64 (wholeF 0 0 p).1, .int .i64 (wholeF 0 0 p).2]) /\ Below w.heap.size w w' := by
  obtain ⟨b0, h0, h1, hz0⟩ := two_boxes w (.slice ao p.length c)
  have H0 := hide h0
  have H1 := hide h1
  have HP := hide (hp.below b0)
  have B0 := hide b0
  have HO := hide hO
  have hpc : p.length <= c /\ c <= maxLen := by
    obtain ⟨ao', c', e, h1, h2, _⟩ := hp
    injection e with e1 e2 e3
    subst e3
    exact ⟨h1, h2⟩
  unfold maxLen at hpc
  clear b0 h0 h1 hp hO
  go_enter Tryz.func8, Tryz.ntmps8
  go_upto_region 1 with fail
  show Code.wp _ _ _ _ ((w.alloc (.cells #[.slice ao p.length c] 24)).alloc (.cells #[.int .i64 0, .int .i64 0] 28))
  generalize (w.alloc (.cells #[.slice ao p.length c] 24)).alloc (.cells #[.int .i64 0, .int .i64 0] 28) = W at *
  go_wp2_with fail
  go_loopw [3, 4] (fun mm i wr => ∃ (m K : Nat), m <= 4096 /\ mm = .int .i64 m /\ K <= p.length /\ K <= 32 /\ i = .int .i64 K /\ Hid (wholeF 0 0 p = wholeF K m (p.drop K)) /\ Hid (Below W.heap.size W wr)) (fun _ i _ => p.length - (intOf i).toNat)
  case atStart => exact ⟨0, 0, by omega, rfl, Nat.zero_le _, by omega, rfl, hide rfl, hide (Below.refl _ _)⟩
  case round =>
    obtain ⟨m, K, hm, rfl, hK, hK32, rfl, HR, HW⟩ := hrel
    have c0 := cell9 ((HW.out.block _ (Nat.lt_trans (Nat.lt_succ_self _) hz0)).trans H0.out)
    by_cases hkt : K < p.length
    . obtain ⟨f, hfK⟩ : ∃ f, p[K]? = some f := ⟨p[K], List.getElem?_eq_some_iff.2 ⟨hkt, rfl⟩⟩
      obtain ⟨ao', c', eq', hh1, hh2, hh3⟩ := HP.out
      injection eq' with e1 e2 e3
      subst e1 e3
      rcases hh3 with hh3 | ⟨gb, ob, rfl, hin⟩
      . subst hh3; simp at hkt
      obtain ⟨aoy, boy, cy, cby, hv, q0, q1, q2, q3, q4⟩ := ((hin K f hfK).below HW.out).val
      have HV := hide hv
      have HOf := hide (HO.out f (List.mem_of_getElem? hfK))
      have hkI : (K : Int) < p.length := by omega
      have HR2 := hide (HR.out.trans (by rw [wdrop_at hfK]))
      obtain ⟨nm, ps, rt, bl, pl⟩ := f
      dsimp only at HV q0 q1 q2 q3 q4
      clear hin hfK hv HR
      have B7 := hide (below_box wr (.cells #[.string (bs nm), .slice aoy ps.length cy, .int .i64 rt, .slice boy bl.length cby, .int .i64 pl] 34))
      have H7 := hide (heap_alloc_new wr (.cells #[.string (bs nm), .slice aoy ps.length cy, .int .i64 rt, .slice boy bl.length cby, .int .i64 pl] 34))
      have hl7 := hide (Array.getElem?_eq_some_iff.1 H7.out).1
      go_wp2_with fail
      refine (rhead_any K (nm, ps, rt, bl, pl) _ _ (HV.out.below B7.out) HOf.out hK32).mono ?_; rintro e w8 ⟨rfl, b8⟩
      have HW8 := hide (below_step HW.out (below_step B7.out b8))
      have hwl : wr.heap.size < w8.heap.size := Nat.lt_of_lt_of_le hl7.out b8.size
      have H8 := hide ((b8.block _ hl7.out).trans H7.out)
      have HV8 := hide (HV.out.below (below_step B7.out b8))
      clear b8 q0 q1 q2 q3 q4
      by_cases hh : rheadC K (nm, ps, rt, bl, pl) = 0
      . have h32 : K ≠ 32 := fun e => by subst e; unfold rheadC at hh; rw [if_pos (Nat.le_refl _)] at hh; cases hh
        have HH : Hid (headC (nm, ps, rt, bl, pl) = 0) := hide (by unfold rheadC at hh; rwa [if_neg (by omega)] at hh)
        have HRF : Hid (wholeF 0 0 p = finW K (runB m (bl.drop 0)) (p.drop (K + 1))) := hide (HR2.out.trans (whole_fin _ h32 HH.out))
        have HBL : Hid (BlksR w8 bl (.slice boy bl.length cby)) := hide (by
          obtain ⟨vp, vb, e, _, h2⟩ := HV8.out
          injection e with e
          have e2 := congrArg (fun a => a[3]?) e
          simp at e2
          rw [e2]; exact h2)
        have O2 := hide HOf.out.2
        dsimp only at O2
        rw [hh]
        clear hh HR2
        go_wp2_with fail
        obtain ⟨w0, hw0⟩ : ∃ w0, w0 = w8 := ⟨_, rfl⟩
        rw [<- hw0] at HW8 H8 HBL hwl ⊢
        clear hw0 HV8
        go_loopw [3, 7] (fun mm i wr' => ∃ (m A : Nat), m <= 4096 /\ mm = .int .i64 m /\ A <= bl.length /\ i = .int .i64 A /\ Hid (wholeF 0 0 p = finW K (runB m (bl.drop A)) (p.drop (K + 1))) /\ Hid (Below w0.heap.size w0 wr')) (fun _ i _ => bl.length - (intOf i).toNat)
        case atStart => exact ⟨m, 0, hm, rfl, Nat.zero_le _, rfl, HRF, hide (Below.refl _ _)⟩
        case round =>
          obtain ⟨m1, A, hm1, rfl, hA, rfl, HRA, HWA⟩ := hrel
          obtain ⟨s0, s1, s2, s3, s4⟩ := box5 ((HWA.out.block _ hwl).trans H8.out)
          clear s0 s1 s2 s4
          obtain ⟨ao2, c2', eq2, hh1, hh2, hh3⟩ := HBL.out
          injection eq2 with e1 e2 e3
          subst e1 e3
          unfold maxLen at hh2
          by_cases hat : A < bl.length
          . obtain ⟨b, hbA⟩ : ∃ b, bl[A]? = some b := ⟨bl[A], List.getElem?_eq_some_iff.2 ⟨hat, rfl⟩⟩
            rcases hh3 with hh3 | ⟨gc, oc, rfl, hgc, hbl⟩
            . subst hh3; simp at hat
            obtain ⟨vk, kd, kk⟩ := hbl A b hbA
            have KD := hide kd
            obtain ⟨aok, capk, rfl, lk1, lk2, kins⟩ := kk
            have HOb := hide (O2.out b (List.mem_of_getElem? hbA))
            have KI := hide kins
            have haI : (A : Int) < bl.length := by omega
            have HR3 : Hid (wholeF 0 0 p = finW K (midB m1 (b.drop 0) (bl.drop (A + 1))) (p.drop (K + 1))) := hide (by rw [HRA.out, wdrop_at hbA]; rfl)
            unfold maxLen at lk2
            clear kins kd hbl hbA HRA
            go_wp2_with fail
            clear s3
            go_loopw [3, 8] (fun mm i wr'' => ∃ (m J : Nat), m <= 4096 /\ mm = .int .i64 m /\ J <= b.length /\ i = .int .i64 J /\ Hid (wholeF 0 0 p = finW K (midB m (b.drop J) (bl.drop (A + 1))) (p.drop (K + 1))) /\ Hid (Below w0.heap.size w0 wr'')) (fun _ i _ => b.length - (intOf i).toNat)
            case atStart => exact ⟨m1, 0, hm1, rfl, Nat.zero_le _, rfl, HR3, HWA⟩
            case round =>
              obtain ⟨m2, J, hm2, rfl, hJ, rfl, HRJ, HWJ⟩ := hrel
              obtain ⟨s0, s1, s2, s3, s4⟩ := box5 ((HWJ.out.block _ hwl).trans H8.out)
              clear s0 s1 s2 s4
              have kd' := (HWJ.out.cell (p := ⟨gc, oc + A, none⟩) hgc).trans KD.out
              by_cases hjt : J < b.length
              . obtain ⟨y, hyJ⟩ : ∃ y, b[J]? = some y := ⟨b[J], List.getElem?_eq_some_iff.2 ⟨hjt, rfl⟩⟩
                rcases KI.out with hh | ⟨gi, oi, rfl, hin⟩
                . subst hh; simp at hjt
                obtain ⟨aoz, toz, caz, ctz, hv, r0, r1, r2, r3, r4, r5, r6, r7⟩ := ((hin J y hyJ).below HWJ.out).val
                have HVy := hide hv
                have HOy := hide (HOb.out y (List.mem_of_getElem? hyJ))
                have hjI : (J : Int) < b.length := by omega
                have HR4 := hide (HRJ.out.trans (by rw [wdrop_at hyJ]))
                obtain ⟨op, id, nn, ty, ar, tt, na, pp⟩ := y
                dsimp only at HVy r0 r1 r2 r3 r4 r5 r6 r7
                clear hin hyJ hv HRJ
                by_cases h4 : m2 = 4096
                . subst h4
                  have HE := hide (HR4.out.trans (by rw [midB_full]; exact fin_bad _ (by decide) : _ = ((6 : Int), (K : Int))))
                  obtain ⟨d0, d1, z0, z1⟩ := err_box (((below_step HW8.out HWJ.out).block _ hz0).trans H1.out)
                  go_wp2_with fail
                  exact bodyPost_ret (v := .agg #[.int .i64 6, .int .i64 (K : Int)]) (by simp [results, Tryz.results8, go_sem, d0, d1]) rfl ⟨by rw [HE.out], err_below B0.out (below_step HW8.out HWJ.out)⟩
                . have h4' : ¬ (4096 : Int) < (m2 : Int) + 1 := by omega
                  go_wp2_with fail
                  refine (rcheck_any (op, id, nn, ty, ar, tt, na, pp) _ _ HVy.out HOy.out.1 HOy.out.2).mono ?_; rintro e w9 ⟨rfl, b9⟩
                  have HW9 := hide (below_step HWJ.out b9)
                  clear r0 r1 r2 r3 r4 r5 r6 r7 b9 s3 kd'
                  by_cases hcx : checkC (op, id, nn, ty, ar, tt, na, pp) = 0
                  . have HE := hide (HR4.out.trans (by rw [midB_good _ _ h4 hcx]))
                    rw [hcx]
                    go_wp2_with fail
                    go_roundw
                    case rel => exact ⟨m2 + 1, J + 1, by omega, by go_num, by omega, by go_num, HE, HW9⟩
                    case measure => simp [intOf]; omega
                  . have HE := hide (HR4.out.trans (by rw [midB_bad _ _ h4 hcx]; exact fin_bad _ hcx : _ = (checkC (op, id, nn, ty, ar, tt, na, pp), (K : Int))))
                    have hcx' : (checkC (op, id, nn, ty, ar, tt, na, pp) != 0) = true := by simpa using hcx
                    generalize checkC (op, id, nn, ty, ar, tt, na, pp) = z at *
                    obtain ⟨d0, d1, z0, z1⟩ := err_box (((below_step HW8.out HW9.out).block _ hz0).trans H1.out)
                    go_wp2_with fail
                    exact bodyPost_ret (v := .agg #[.int .i64 z, .int .i64 (K : Int)]) (by simp [results, Tryz.results8, go_sem, d0, d1]) rfl ⟨by rw [HE.out], err_below B0.out (below_step HW8.out HW9.out)⟩
              . obtain rfl : J = b.length := by omega
                have HE := hide (HRJ.out.trans (by rw [List.drop_length, midB_nil] : _ = finW K (runB m2 (bl.drop (A + 1))) (p.drop (K + 1))))
                go_wp2_with fail
                go_roundw
                case rel => exact ⟨m2, A + 1, hm2, rfl, by omega, by go_num, HE, HWJ⟩
                case measure => simp [intOf]; omega
          . obtain rfl : A = bl.length := by omega
            have HE := hide (HRA.out.trans (by rw [List.drop_length]; exact fin_good _ _ _ : _ = wholeF (K + 1) m1 (p.drop (K + 1))))
            have HWF := hide (below_step HW8.out HWA.out)
            go_wp2_with fail
            go_roundw
            case rel => exact ⟨m1, K + 1, hm1, rfl, by omega, by omega, by go_num, HE, HWF⟩
            case measure => simp [intOf]; omega
      . have HE : Hid (wholeF 0 0 p = (rheadC K (nm, ps, rt, bl, pl), (K : Int))) := hide (by
          rw [HR2.out]
          by_cases h32 : K = 32
          . subst h32; rw [whole_many]; rfl
          . have e : rheadC K (nm, ps, rt, bl, pl) = headC (nm, ps, rt, bl, pl) := if_neg (by omega)
            rw [e]; exact whole_head _ _ h32 (by rw [<- e]; exact hh))
        have hh2 : (rheadC K (nm, ps, rt, bl, pl) != 0) = true := by simpa using hh
        generalize rheadC K (nm, ps, rt, bl, pl) = z at *
        clear hh
        obtain ⟨d0, d1, z0, z1⟩ := err_box ((HW8.out.block _ hz0).trans H1.out)
        go_wp2_with fail
        exact bodyPost_ret (v := .agg #[.int .i64 z, .int .i64 (K : Int)]) (by simp [results, Tryz.results8, go_sem, d0, d1]) rfl ⟨by rw [HE.out], err_below B0.out HW8.out⟩
    . obtain rfl : K = p.length := by omega
      have HE : Hid (wholeF 0 0 p = (0, 0)) := hide (HR.out.trans (by rw [List.drop_length]; rfl))
      obtain ⟨d0, d1, z0, z1⟩ := err_box ((HW.out.block _ hz0).trans H1.out)
      go_wp2_with fail
      exact bodyPost_ret (v := .agg #[.int .i64 0, .int .i64 0]) (by simp [results, Tryz.results8, go_sem, d0, d1]) rfl ⟨by rw [HE.out], err_below B0.out HW.out⟩
end Go.Proofs.YtahhbckccdigoaaGreatDoor
