/- Layer 7, the reference: whether a program may be written: Whole. -/
import Derived.Test.YtahhbckccdigoaaGreatDoorMcAQ
import Derived.Test.YtahhbckccdigoaaGreatDoorMcAU
import Derived.Test.YtahhbckccdigoaaGreatDoorMcBA
import Derived.Test.YtahhbckccdigoaaGreatDoorMcBB
import Derived.Deep.Slices
import Derived.SizedLaws
import Derived.KernelRfl
namespace Go.Proofs.YtahhbckccdigoaaGreatDoor
open Go Go.RowKit
open G (Tok Er Ins Fun)
/-- What a program's check comes to behind a function's instructions. -/
def finW (i : Nat) (x : Nat × Int) (r : List Fun) : Int × Int := if x.2 ≠ 0 then (x.2, (i : Int)) else wholeF (i + 1) x.1 r
theorem whole_fin {i m : Nat} {f : Fun} (r : List Fun) (hi : i ≠ 32) (hh : headC f = 0) : wholeF i m (f :: r) = finW i (runB m f.2.2.2.1) r := by
  rw [wholeF, if_neg hi, if_neg (by simp [hh])]; rfl
theorem fin_bad {i m : Nat} {z : Int} (r : List Fun) (h : z ≠ 0) : finW i (m, z) r = (z, (i : Int)) := by unfold finW; rw [if_pos h]
theorem fin_good (i m : Nat) (r : List Fun) : finW i (m, 0) r = wholeF (i + 1) m r := by unfold finW; simp
theorem rhead_any (i : Nat) (f : Fun) (v : Value) (w : World) (h : FunV w f v) (hO : OkF f) (hi : i ≤ 32) : Calls Tryz.prog 22 #[v, .int .i64 i] w fun e w' => e = .returned (.int .i64 (rheadC i f)) ∧ Below w.heap.size w w' := by
  obtain ⟨nm, ps, rt, bl, pl⟩ := f
  obtain ⟨vp, vb, rfl, ⟨ao, c, rfl, h1, h2, h3⟩, ⟨bo, cb, rfl, h4, h5, _⟩⟩ := h
  exact rhead_try i nm ps rt pl bl ao bo c cb w h1 ⟨Nat.le_trans h2 h3, Nat.le_trans h4 h5⟩ hO.1 (by unfold maxLen; omega)
set_option maxHeartbeats 4000000 in
set_option maxRecDepth 20000 in
theorem rwhole_try (p : List Fun) (ao : Option Addr) (c : Nat) (w : World) (hp : ProgR w p (.slice ao p.length c)) (hO : ∀ f ∈ p, OkF f) :
    Calls Tryz.prog 8 #[.agg #[.slice ao p.length c]] w fun e w' => e = .returned (.agg #[.int .i64 (wholeF 0 0 p).1, .int .i64 (wholeF 0 0 p).2]) ∧ Below w.heap.size w w' := by
  obtain ⟨b0, h0, h1, hz0⟩ := two_boxes w (.slice ao p.length c)
  have H0 := hide h0
  have H1 := hide h1
  have HP := hide (hp.below b0)
  have B0 := hide b0
  have HO := hide hO
  have hpc : p.length ≤ c ∧ c ≤ maxLen := by
    obtain ⟨ao', c', e, h1, h2, _⟩ := hp
    injection e with e1 e2 e3
    subst e3
    exact ⟨h1, h2⟩
  unfold maxLen at hpc
  clear b0 h0 h1 hp hO
  go_enter Tryz.func8, Tryz.ntmps8
  go_upto_region 1 with fail
  show Code.wp _ _ _ _ ((w.alloc (.cells #[.slice ao p.length c] 24)).alloc (.cells #[.int .i64 0, .int .i64 0] 28))
  generalize (w.alloc (.cells #[.slice ao p.length c] 24)).alloc (.cells #[.int .i64 0, .int .i64 0] 28) = W at *
  go_wp2_with fail
  go_loopw [3, 4] (fun mm i wr => ∃ (m K : Nat), m ≤ 4096 ∧ mm = .int .i64 m ∧ K ≤ p.length ∧ K ≤ 32 ∧ i = .int .i64 K ∧ Hid (wholeF 0 0 p = wholeF K m (p.drop K)) ∧ Hid (Below W.heap.size W wr)) (fun _ i _ => p.length - (intOf i).toNat)
  case atStart => exact ⟨0, 0, by omega, rfl, Nat.zero_le _, by omega, rfl, hide rfl, hide (Below.refl _ _)⟩
  case round =>
    obtain ⟨m, K, hm, rfl, hK, hK32, rfl, HR, HW⟩ := hrel
    have c0 := cell9 ((HW.out.block _ (Nat.lt_trans (Nat.lt_succ_self _) hz0)).trans H0.out)
    by_cases hkt : K < p.length
    · obtain ⟨f, hfK⟩ : ∃ f, p[K]? = some f := ⟨p[K], List.getElem?_eq_some_iff.2 ⟨hkt, rfl⟩⟩
      obtain ⟨ao', c', eq', hh1, hh2, hh3⟩ := HP.out
      injection eq' with e1 e2 e3
      subst e1 e3
      rcases hh3 with hh3 | ⟨gb, ob, rfl, hin⟩
      · subst hh3; simp at hkt
      obtain ⟨aoy, boy, cy, cby, hv, q0, q1, q2, q3, q4⟩ := ((hin K f hfK).below HW.out).val
      have HV := hide hv
      have HOf := hide (HO.out f (List.mem_of_getElem? hfK))
      have hkI : (K : Int) < p.length := by omega
      have HR2 := hide (HR.out.trans (by rw [wdrop_at hfK]))
      obtain ⟨nm, ps, rt, bl, pl⟩ := f
      dsimp only at HV q0 q1 q2 q3 q4
      clear hin hfK hv HR
      have B7 := hide (below_box wr (.cells #[.string (bs nm), .slice aoy ps.length cy, .int .i64 rt, .slice boy bl.length cby, .int .i64 pl] 34))
      have H7 := hide (heap_alloc_new wr (.cells #[.string (bs nm), .slice aoy ps.length cy, .int .i64 rt, .slice boy bl.length cby, .int .i64 pl] 34))
      have hl7 := hide (Array.getElem?_eq_some_iff.1 H7.out).1
      go_wp2_with fail
      refine (rhead_any K (nm, ps, rt, bl, pl) _ _ (HV.out.below B7.out) HOf.out hK32).mono ?_; rintro e w8 ⟨rfl, b8⟩
      have HW8 := hide (below_step HW.out (below_step B7.out b8))
      have hwl : wr.heap.size < w8.heap.size := Nat.lt_of_lt_of_le hl7.out b8.size
      have H8 := hide ((b8.block _ hl7.out).trans H7.out)
      have HV8 := hide (HV.out.below (below_step B7.out b8))
      clear b8 q0 q1 q2 q3 q4
      by_cases hh : rheadC K (nm, ps, rt, bl, pl) = 0
      · have h32 : K ≠ 32 := fun e => by subst e; unfold rheadC at hh; rw [if_pos (Nat.le_refl _)] at hh; cases hh
        have HH : Hid (headC (nm, ps, rt, bl, pl) = 0) := hide (by unfold rheadC at hh; rwa [if_neg (by omega)] at hh)
        have HRF : Hid (wholeF 0 0 p = finW K (runB m (bl.drop 0)) (p.drop (K + 1))) := hide (HR2.out.trans (whole_fin _ h32 HH.out))
        have HBL : Hid (BlksR w8 bl (.slice boy bl.length cby)) := hide (by
          obtain ⟨vp, vb, e, _, h2⟩ := HV8.out
          injection e with e
          have e2 := congrArg (fun a => a[3]?) e
          simp at e2
          rw [e2]; exact h2)
        have O2 := hide HOf.out.2
        dsimp only at O2
        rw [hh]
        clear hh HR2
        go_wp2_with fail
        obtain ⟨w0, hw0⟩ : ∃ w0, w0 = w8 := ⟨_, rfl⟩
        rw [← hw0] at HW8 H8 HBL hwl ⊢
        clear hw0 HV8
        go_loopw [3, 7] (fun mm i wr' => ∃ (m A : Nat), m ≤ 4096 ∧ mm = .int .i64 m ∧ A ≤ bl.length ∧ i = .int .i64 A ∧ Hid (wholeF 0 0 p = finW K (runB m (bl.drop A)) (p.drop (K + 1))) ∧ Hid (Below w0.heap.size w0 wr')) (fun _ i _ => bl.length - (intOf i).toNat)
        case atStart => exact ⟨m, 0, hm, rfl, Nat.zero_le _, rfl, HRF, hide (Below.refl _ _)⟩
        case round =>
          obtain ⟨m1, A, hm1, rfl, hA, rfl, HRA, HWA⟩ := hrel
          obtain ⟨s0, s1, s2, s3, s4⟩ := box5 ((HWA.out.block _ hwl).trans H8.out)
          clear s0 s1 s2 s4
          obtain ⟨ao2, c2', eq2, hh1, hh2, hh3⟩ := HBL.out
          injection eq2 with e1 e2 e3
          subst e1 e3
          unfold maxLen at hh2
          by_cases hat : A < bl.length
          · obtain ⟨b, hbA⟩ : ∃ b, bl[A]? = some b := ⟨bl[A], List.getElem?_eq_some_iff.2 ⟨hat, rfl⟩⟩
            rcases hh3 with hh3 | ⟨gc, oc, rfl, hgc, hbl⟩
            · subst hh3; simp at hat
            obtain ⟨vk, kd, kk⟩ := hbl A b hbA
            have KD := hide kd
            obtain ⟨aok, capk, rfl, lk1, lk2, kins⟩ := kk
            have HOb := hide (O2.out b (List.mem_of_getElem? hbA))
            have KI := hide kins
            have haI : (A : Int) < bl.length := by omega
            have HR3 : Hid (wholeF 0 0 p = finW K (midB m1 (b.drop 0) (bl.drop (A + 1))) (p.drop (K + 1))) := hide (by rw [HRA.out, wdrop_at hbA]; rfl)
            unfold maxLen at lk2
            clear kins kd hbl hbA HRA
            go_wp2_with fail
            clear s3
            go_loopw [3, 8] (fun mm i wr'' => ∃ (m J : Nat), m ≤ 4096 ∧ mm = .int .i64 m ∧ J ≤ b.length ∧ i = .int .i64 J ∧ Hid (wholeF 0 0 p = finW K (midB m (b.drop J) (bl.drop (A + 1))) (p.drop (K + 1))) ∧ Hid (Below w0.heap.size w0 wr'')) (fun _ i _ => b.length - (intOf i).toNat)
            case atStart => exact ⟨m1, 0, hm1, rfl, Nat.zero_le _, rfl, HR3, HWA⟩
            case round =>
              obtain ⟨m2, J, hm2, rfl, hJ, rfl, HRJ, HWJ⟩ := hrel
              obtain ⟨s0, s1, s2, s3, s4⟩ := box5 ((HWJ.out.block _ hwl).trans H8.out)
              clear s0 s1 s2 s4
              have kd' := (HWJ.out.cell (p := ⟨gc, oc + A, none⟩) hgc).trans KD.out
              by_cases hjt : J < b.length
              · obtain ⟨y, hyJ⟩ : ∃ y, b[J]? = some y := ⟨b[J], List.getElem?_eq_some_iff.2 ⟨hjt, rfl⟩⟩
                rcases KI.out with hh | ⟨gi, oi, rfl, hin⟩
                · subst hh; simp at hjt
                obtain ⟨aoz, toz, caz, ctz, hv, r0, r1, r2, r3, r4, r5, r6, r7⟩ := ((hin J y hyJ).below HWJ.out).val
                have HVy := hide hv
                have HOy := hide (HOb.out y (List.mem_of_getElem? hyJ))
                have hjI : (J : Int) < b.length := by omega
                have HR4 := hide (HRJ.out.trans (by rw [wdrop_at hyJ]))
                obtain ⟨op, id, nn, ty, ar, tt, na, pp⟩ := y
                dsimp only at HVy r0 r1 r2 r3 r4 r5 r6 r7
                clear hin hyJ hv HRJ
                by_cases h4 : m2 = 4096
                · subst h4
                  have HE := hide (HR4.out.trans (by rw [midB_full]; exact fin_bad _ (by decide) : _ = ((6 : Int), (K : Int))))
                  obtain ⟨d0, d1, z0, z1⟩ := err_box (((below_step HW8.out HWJ.out).block _ hz0).trans H1.out)
                  go_wp2_with fail
                  exact bodyPost_ret (v := .agg #[.int .i64 6, .int .i64 (K : Int)]) (by simp [results, Tryz.results8, go_sem, d0, d1]) rfl ⟨by rw [HE.out], err_below B0.out (below_step HW8.out HWJ.out)⟩
                · have h4' : ¬ (4096 : Int) < (m2 : Int) + 1 := by omega
                  go_wp2_with fail
                  refine (rcheck_any (op, id, nn, ty, ar, tt, na, pp) _ _ HVy.out HOy.out.1 HOy.out.2).mono ?_; rintro e w9 ⟨rfl, b9⟩
                  have HW9 := hide (below_step HWJ.out b9)
                  clear r0 r1 r2 r3 r4 r5 r6 r7 b9 s3 kd'
                  by_cases hcx : checkC (op, id, nn, ty, ar, tt, na, pp) = 0
                  · have HE := hide (HR4.out.trans (by rw [midB_good _ _ h4 hcx]))
                    rw [hcx]
                    go_wp2_with fail
                    go_roundw
                    case rel => exact ⟨m2 + 1, J + 1, by omega, by go_num, by omega, by go_num, HE, HW9⟩
                    case measure => simp [intOf]; omega
                  · have HE := hide (HR4.out.trans (by rw [midB_bad _ _ h4 hcx]; exact fin_bad _ hcx : _ = (checkC (op, id, nn, ty, ar, tt, na, pp), (K : Int))))
                    have hcx' : (checkC (op, id, nn, ty, ar, tt, na, pp) != 0) = true := by simpa using hcx
                    generalize checkC (op, id, nn, ty, ar, tt, na, pp) = z at *
                    obtain ⟨d0, d1, z0, z1⟩ := err_box (((below_step HW8.out HW9.out).block _ hz0).trans H1.out)
                    go_wp2_with fail
                    exact bodyPost_ret (v := .agg #[.int .i64 z, .int .i64 (K : Int)]) (by simp [results, Tryz.results8, go_sem, d0, d1]) rfl ⟨by rw [HE.out], err_below B0.out (below_step HW8.out HW9.out)⟩
              · obtain rfl : J = b.length := by omega
                have HE := hide (HRJ.out.trans (by rw [List.drop_length, midB_nil] : _ = finW K (runB m2 (bl.drop (A + 1))) (p.drop (K + 1))))
                go_wp2_with fail
                go_roundw
                case rel => exact ⟨m2, A + 1, hm2, rfl, by omega, by go_num, HE, HWJ⟩
                case measure => simp [intOf]; omega
          · obtain rfl : A = bl.length := by omega
            have HE := hide (HRA.out.trans (by rw [List.drop_length]; exact fin_good _ _ _ : _ = wholeF (K + 1) m1 (p.drop (K + 1))))
            have HWF := hide (below_step HW8.out HWA.out)
            go_wp2_with fail
            go_roundw
            case rel => exact ⟨m1, K + 1, hm1, rfl, by omega, by omega, by go_num, HE, HWF⟩
            case measure => simp [intOf]; omega
      · have HE : Hid (wholeF 0 0 p = (rheadC K (nm, ps, rt, bl, pl), (K : Int))) := hide (by
          rw [HR2.out]
          by_cases h32 : K = 32
          · subst h32; rw [whole_many]; rfl
          · have e : rheadC K (nm, ps, rt, bl, pl) = headC (nm, ps, rt, bl, pl) := if_neg (by omega)
            rw [e]; exact whole_head _ _ h32 (by rw [← e]; exact hh))
        have hh2 : (rheadC K (nm, ps, rt, bl, pl) != 0) = true := by simpa using hh
        generalize rheadC K (nm, ps, rt, bl, pl) = z at *
        clear hh
        obtain ⟨d0, d1, z0, z1⟩ := err_box ((HW8.out.block _ hz0).trans H1.out)
        go_wp2_with fail
        exact bodyPost_ret (v := .agg #[.int .i64 z, .int .i64 (K : Int)]) (by simp [results, Tryz.results8, go_sem, d0, d1]) rfl ⟨by rw [HE.out], err_below B0.out HW8.out⟩
    · obtain rfl : K = p.length := by omega
      have HE : Hid (wholeF 0 0 p = (0, 0)) := hide (HR.out.trans (by rw [List.drop_length]; rfl))
      obtain ⟨d0, d1, z0, z1⟩ := err_box ((HW.out.block _ hz0).trans H1.out)
      go_wp2_with fail
      exact bodyPost_ret (v := .agg #[.int .i64 0, .int .i64 0]) (by simp [results, Tryz.results8, go_sem, d0, d1]) rfl ⟨by rw [HE.out], err_below B0.out HW.out⟩
end Go.Proofs.YtahhbckccdigoaaGreatDoor
namespace Go.Proofs.YtahhbckccdigoaaGreatDoor
open Go Go.RowKit
open G (Tok Er Ins Fun peek0 peek1 atOf)
abbrev b8 (k id n ty : Int) (ao to : Option Addr) (la lt ca ct : Nat) (nm : List UInt8) (pl : Int) : List Value := [.int .i64 k, .int .i64 id, .int .i64 n, .int .i64 ty, .slice ao la ca, .slice to lt ct, .string (bs nm), .int .i64 pl]
set_option maxHeartbeats 8000000 in
set_option maxRecDepth 20000 in
theorem law_checks (k id n ty pl : Int) (ar tt : List Int) (nm : List UInt8) (ao to : Option Addr) (ca ct : Nat) (p : List Fun) (po : Option Addr) (c : Nat) (w : World)
    (hx : InsV w (k, id, n, ty, ar, tt, nm, pl) (.agg (b8 k id n ty ao to ar.length tt.length ca ct nm pl).toArray)) (hn : I64 n) (hnm : nm.length ≤ maxLen) (hp : ProgR w p (.slice po p.length c)) (ht : Tb w) (hO : ∀ f ∈ p, OkF f)
    (hli : ∀ w1 : World, ProgR w1 p (.slice po p.length c) → Calls Tryz.prog 7 #[.agg #[.slice po p.length c]] w1 fun e w' => e = .returned (.bool (lightB p)) ∧ Below w1.heap.size w1 w') :
    Calls Tryz.prog 4 #[.agg (b8 k id n ty ao to ar.length tt.length ca ct nm pl).toArray, .agg #[.slice po p.length c]] w fun e w' => e = .returned (.bool true) ∧ Below w.heap.size w w' := by
  have b1 := below_box w (.cells (b8 k id n ty ao to ar.length tt.length ca ct nm pl).toArray 39)
  have b2 := below_box (w.alloc (.cells (b8 k id n ty ao to ar.length tt.length ca ct nm pl).toArray 39)) (.cells #[.slice po p.length c] 24)
  have hz3 : (w.alloc (.cells (b8 k id n ty ao to ar.length tt.length ca ct nm pl).toArray 39)).heap.size = w.heap.size + 1 := by simp
  have X1 : Hid (L5.Box ((w.alloc (.cells (b8 k id n ty ao to ar.length tt.length ca ct nm pl).toArray 39)).alloc (.cells #[.slice po p.length c] 24)) w.heap.size (b8 k id n ty ao to ar.length tt.length ca ct nm pl)) := hide ⟨by simp; omega, fun i u hu => by
    refine (b2.cell (p := ⟨w.heap.size, i, none⟩) (by show w.heap.size < _; omega)).trans ?_
    have := World.news_of_block (heap_alloc_new w (.cells (b8 k id n ty ao to ar.length tt.length ca ct nm pl).toArray 39)) i u hu
    rw [Addr.add_lit, Nat.zero_add] at this
    exact this⟩
  have X2 : Hid (L5.Box ((w.alloc (.cells (b8 k id n ty ao to ar.length tt.length ca ct nm pl).toArray 39)).alloc (.cells #[.slice po p.length c] 24)) (w.heap.size + 1) [.slice po p.length c]) := hide ⟨by simp, fun i u hu => by
    have := World.news_of_block (heap_alloc_new (w.alloc (.cells (b8 k id n ty ao to ar.length tt.length ca ct nm pl).toArray 39)) (.cells #[.slice po p.length c] 24)) i u hu
    rw [Addr.add_lit, Nat.zero_add, hz3] at this
    exact this⟩
  have bb := below_step b1 b2
  have B0 := hide bb
  have HX := hide (hx.below bb)
  have HP := hide (hp.below bb)
  have HT := hide (ht.below bb)
  have HLI := hide hli
  have HNM := hide hnm
  have hz4 : (bs nm).size ≤ maxLen := by rw [bs_size]; exact hnm
  clear b1 b2 bb hz3 hx hp ht hli
  go_enter Tryz.func4, Tryz.ntmps4
  go_upto_region 1 with fail
  show Code.wp _ _ _ _ ((w.alloc (.cells (b8 k id n ty ao to ar.length tt.length ca ct nm pl).toArray 39)).alloc (.cells #[.slice po p.length c] 24))
  generalize (w.alloc (.cells (b8 k id n ty ao to ar.length tt.length ca ct nm pl).toArray 39)).alloc (.cells #[.slice po p.length c] 24) = W0 at *
  have y0 := X2.out.2 0 _ rfl
  go_wp2_with fail
  refine (HLI.out _ HP.out).mono ?_; rintro e w1 ⟨rfl, b1⟩
  have B1 := hide (below_step B0.out b1)
  replace X1 := hide (X1.out.below b1)
  replace X2 := hide (X2.out.below b1)
  replace HX := hide (HX.out.below b1)
  replace HP := hide (HP.out.below b1)
  replace HT := hide (HT.out.below b1)
  clear b1 y0 B0
  cases hl : lightB p with
  | false =>
    go_wp2_with fail
    refine (works_any _ HT.out).mono ?_; rintro e w2 ⟨rfl, b2⟩
    have B2 := hide (below_step B1.out b2)
    go_wp2_with fail
    go_ret
    exact ⟨rfl, B2.out⟩
  | true =>
    have z4 := X1.out.2 4 _ rfl
    have z5 := X1.out.2 5 _ rfl
    have z6 := X1.out.2 6 _ rfl
    by_cases h1 : (100 : Int) < (ar.length : Int)
    · have h1' : decide ((100 : Int) < (ar.length : Int)) = true := by simpa using h1
      go_wp2_with fail
      refine (works_any _ HT.out).mono ?_; rintro e w2 ⟨rfl, b2⟩
      have B2 := hide (below_step B1.out b2)
      go_wp2_with fail
      go_ret
      exact ⟨rfl, B2.out⟩
    · have h1' : decide ((100 : Int) < (ar.length : Int)) = false := by simpa using h1
      by_cases h2 : (100 : Int) < (tt.length : Int)
      · have h2' : decide ((100 : Int) < (tt.length : Int)) = true := by simpa using h2
        go_wp2_with fail
        refine (works_any _ HT.out).mono ?_; rintro e w2 ⟨rfl, b2⟩
        have B2 := hide (below_step B1.out b2)
        go_wp2_with fail
        go_ret
        exact ⟨rfl, B2.out⟩
      · have h2' : decide ((100 : Int) < (tt.length : Int)) = false := by simpa using h2
        by_cases h3 : (300 : Int) < ((bs nm).size : Int)
        · have h3' : decide ((300 : Int) < ((bs nm).size : Int)) = true := by simpa using h3
          go_wp2_with fail
          refine (works_any _ HT.out).mono ?_; rintro e w2 ⟨rfl, b2⟩
          have B2 := hide (below_step B1.out b2)
          go_wp2_with fail
          go_ret
          exact ⟨rfl, B2.out⟩
        · have h3' : decide ((300 : Int) < ((bs nm).size : Int)) = false := by simpa using h3
          have u0 := fun x => (L5.grew_box X1.out x).2 0 _ rfl
          have u1 := fun x => (L5.grew_box X1.out x).2 1 _ rfl
          have u2 := fun x => (L5.grew_box X1.out x).2 2 _ rfl
          have u3 := fun x => (L5.grew_box X1.out x).2 3 _ rfl
          have u4 := fun x => (L5.grew_box X1.out x).2 4 _ rfl
          have u5 := fun x => (L5.grew_box X1.out x).2 5 _ rfl
          have u6 := fun x => (L5.grew_box X1.out x).2 6 _ rfl
          have u7 := fun x => (L5.grew_box X1.out x).2 7 _ rfl
          have uu := fun x => (L5.grew_box X2.out x).2 0 _ rfl
          have hXX := hide (fun x => HX.out.below (L5.grewTo_below w1 x))
          have hTT := hide (fun x => HT.out.below (L5.grewTo_below w1 x))
          have hPP := hide (fun x => HP.out.below (L5.grewTo_below w1 x))
          go_wp2_with fail
          refine L5.region_grew (by kernel_rfl) (by kernel_rfl) ?_
          repeat (go_big_quiet_step ((first
            | (go_at_call 16; exact L5.calls_grew (check_any (k, id, n, ty, ar, tt, nm, pl) _ _ (hXX.out _) hn (hTT.out _) HNM.out))
            | (go_at_call 17; exact L5.calls_grew (rcheck_any (k, id, n, ty, ar, tt, nm, pl) _ _ (hXX.out _) hn HNM.out))
            | (go_at_call 18; exact L5.calls_grew (whole_try p po c _ (hPP.out _) (hTT.out _) hO))
            | (go_at_call 8; exact L5.calls_grew (rwhole_try p po c _ (hPP.out _) hO))
            | (go_at_call 9; exact L5.calls_grew (works_any _ (hTT.out _))))))
          refine wpQuiet_nil ?_
          rintro _ ⟨x, rfl⟩
          go_wp2_with fail
          go_ret
          exact ⟨rfl, below_step B1.out (L5.grewTo_below _ x)⟩
/-- ShowChecks, whatever instruction and program it is given, of the sizes that memory can hold. -/
theorem law_checks_any (x : Ins) (v : Value) (p : List Fun) (po : Option Addr) (c : Nat) (w : World) (hx : InsV w x v) (hn : I64 x.2.2.1) (hnm : x.2.2.2.2.2.2.1.length ≤ maxLen) (hp : ProgR w p (.slice po p.length c)) (ht : Tb w) (hO : ∀ f ∈ p, OkF f) (h0 : p.length ≤ 140737488355328) (hS : ∀ f ∈ p, ShF f) :
    Calls Tryz.prog 4 #[v, .agg #[.slice po p.length c]] w fun e w' => e = .returned (.bool true) ∧ Below w.heap.size w w' := by
  obtain ⟨k, id, n, ty, ar, tt, nm, pl⟩ := x
  have hx2 := hx
  obtain ⟨ao, to, ca, ct, rfl, _⟩ := hx
  exact law_checks k id n ty pl ar tt nm ao to ca ct p po c w hx2 hn hnm hp ht hO fun w1 h1 => light_any p po c w1 h1 h0 hS
end Go.Proofs.YtahhbckccdigoaaGreatDoor
namespace Go.Proofs.YtahhbckccdigoaaGreatDoor
open Go Go.RowKit Go.ChangeShapes Go.WideShapes
open G (Tok Er Ins Fun)
theorem oc2 : Tryz.prog.cellsOf 2 = 1 := by kernel_rfl
theorem oc3 : Tryz.prog.cellsOf 3 = 1 := by kernel_rfl
theorem oc9 : Tryz.prog.cellsOf 9 = 1 := by kernel_rfl
theorem oc22 : Tryz.prog.cellsOf 22 = 1 := by kernel_rfl
theorem oc24 : Tryz.prog.cellsOf 24 = 1 := by kernel_rfl
theorem oc31 : Tryz.prog.cellsOf 31 = 1 := by kernel_rfl
theorem oc32 : Tryz.prog.cellsOf 32 = 1 := by kernel_rfl
theorem oc34 : Tryz.prog.cellsOf 34 = 5 := by kernel_rfl
theorem oc36 : Tryz.prog.cellsOf 36 = 1 := by kernel_rfl
theorem oc39 : Tryz.prog.cellsOf 39 = 8 := by kernel_rfl
theorem ob3 : Tryz.prog.bytesOf 3 = 8 := by kernel_rfl
theorem ob34 : Tryz.prog.bytesOf 34 = 80 := by kernel_rfl
theorem ob36 : Tryz.prog.bytesOf 36 = 24 := by kernel_rfl
theorem ob39 : Tryz.prog.bytesOf 39 = 104 := by kernel_rfl
/-- No part of a datum is longer than a process can hold. -/
def Sz {H : Type} (t : TypeId) (d : DataW H) : Prop := ∀ n ∈ d.weights Tryz.prog t, n ≤ reachBytes
section
variable {H : Type}
theorem Sz.field {t : TypeId} {fs : Array Field} {parts : List (DataW H)} (hu : Tryz.prog.underlying t = some (.struct fs)) (h : Sz t (.agg parts)) {i : Nat} {ti : TypeId} {di : DataW H} (ht : (fs.toList.map (·.type))[i]? = some ti) (hd : parts[i]? = some di) : Sz ti di := by
  intro n hn
  refine h n ?_
  simp only [DataW.weights, hu]
  exact DataW.weights_mem_each ht hd n hn
theorem weightsAll_mem {e : TypeId} {d : DataW H} : ∀ {l : List (DataW H)}, d ∈ l → ∀ n ∈ d.weights Tryz.prog e, n ∈ DataW.weightsAll Tryz.prog e l
  | x :: l, hd, n, hn => by
    simp only [DataW.weightsAll, List.mem_append]
    rcases List.mem_cons.1 hd with rfl | hd
    · exact .inl hn
    · exact .inr (weightsAll_mem hd n hn)
theorem Sz.elem {t e : TypeId} {elems spare : List (DataW H)} (hu : Tryz.prog.underlying t = some (.slice e)) (h : Sz t (.slice elems spare)) {d : DataW H} (hd : d ∈ elems) : Sz e d := by
  intro n hn
  refine h n ?_
  simp only [DataW.weights, hu, List.mem_cons, List.mem_append]
  exact .inr (.inl (weightsAll_mem hd n hn))
theorem Sz.len {t e : TypeId} {elems spare : List (DataW H)} (hu : Tryz.prog.underlying t = some (.slice e)) (h : Sz t (.slice elems spare)) : (elems.length + spare.length) * Tryz.prog.bytesOf e ≤ reachBytes :=
  h _ (by simp [DataW.weights, hu])
end
/-- How great a part is. -/
def Few (n : Nat) : Prop := n ≤ 140737488355328
theorem few_of {n b m : Nat} (hb : 1 ≤ b) (h : (n + m) * b ≤ reachBytes) : Few n := by
  have h1 : (n + m) * 1 ≤ (n + m) * b := Nat.mul_le_mul_left _ hb
  have h2 : reachBytes = 140737488351232 := rfl
  unfold Few; omega
/-- What an instruction, and a function, that came in keep to. -/
def GxI (x : Ins) : Prop := I64 x.2.1 ∧ I64 x.2.2.1 ∧ (∀ i ∈ x.2.2.2.2.1, I64 i) ∧ (∀ i ∈ x.2.2.2.2.2.1, I64 i) ∧ Few x.2.2.2.2.1.length ∧ Few x.2.2.2.2.2.1.length ∧ Few x.2.2.2.2.2.2.1.length
def GxF (f : Fun) : Prop := Few f.1.length ∧ Few f.2.1.length ∧ Few f.2.2.2.1.length ∧ ∀ b ∈ f.2.2.2.1, ∀ x ∈ b, GxI x
section
variable {H : Type} {enc : TypeId × Value → H} {W : World}
theorem i64_wf {n : Int} (h : (Lit.int .i64 n).wf = true) : I64 n := by
  simp [Lit.wf, IntKind.min, IntKind.max, IntKind.bits, IntKind.signed] at h
  unfold I64; omega
theorem opn_int {fuel : Nat} {v : Value} {x : DataW H × List MemPlace} (h : DataW.trod enc Tryz.prog W 0 (fun _ => true) true fuel 3 [v] = some x) : ∃ n, v = .int .i64 n ∧ I64 n := by
  obtain ⟨n, e, _, hw⟩ := DataW.trod_int Tryz.underlying3 h
  simp only [List.cons.injEq, and_true] at e
  exact ⟨n, e, i64_wf hw⟩
theorem opn_int2 {fuel : Nat} {v : Value} {x : DataW H × List MemPlace} (h : DataW.trod enc Tryz.prog W 0 (fun _ => true) true fuel 2 [v] = some x) : ∃ n, v = .int .i64 n ∧ I64 n := by
  obtain ⟨n, e, _, hw⟩ := DataW.trod_int Tryz.underlying2 h
  simp only [List.cons.injEq, and_true] at e
  exact ⟨n, e, i64_wf hw⟩
theorem opn_str {fuel : Nat} {v : Value} {x : DataW H × List MemPlace} (h : DataW.trod enc Tryz.prog W 0 (fun _ => true) true fuel 9 [v] = some x) (hz : Sz 9 x.1) : ∃ s : List UInt8, v = .string (bs s) ∧ Few s.length := by
  obtain ⟨s, e, rfl, _⟩ := DataW.trod_string Tryz.underlying9 h
  simp only [List.cons.injEq, and_true] at e
  refine ⟨s.data.toList, by rw [e, bs_of], ?_⟩
  have h1 := hz s.data.toList.length (by simp [DataW.weights])
  have h2 : reachBytes = 140737488351232 := rfl
  unfold Few; omega
theorem spot_none {W : World} {a : Addr} {v : Value} (h : W.cell? (a.add 0) = some v) : ∃ b o, a = ⟨b, o, none⟩ ∧ b < W.heap.size := by
  obtain ⟨b, o, s⟩ := a
  have hs : s = none := by simpa [Addr.add] using World.cell?_spot h
  subst hs
  have hb := World.block_lt_of_cell? W _ h
  exact ⟨b, o, rfl, by simpa [Addr.add] using hb⟩
theorem opn_ints {fuel : Nat} {v : Value} {x : DataW H × List MemPlace} (h : DataW.trod enc Tryz.prog W 0 (fun _ => true) true fuel 31 [v] = some x) (hz : Sz 31 x.1) : ∃ l : List Int, IntsV W l v ∧ (∀ n ∈ l, I64 n) ∧ Few l.length := by
  rcases open_ints Tryz.underlying31 Tryz.underlying3 oc3 h with ⟨e, _⟩ | ⟨a, len, cap, zs, e, _, hl, hm, hzl, rfl, hc, hw⟩
  · simp only [List.cons.injEq, and_true] at e
    exact ⟨[], ⟨none, 0, e, .inl rfl, Nat.le_refl _, Nat.zero_le _⟩, fun _ h => (by cases h), by unfold Few; simp⟩
  · simp only [List.cons.injEq, and_true] at e
    rw [if_pos rfl] at hzl
    have hlen : (zs.take len).length = len := by simp; omega
    have hsl := Sz.len Tryz.underlying31 hz
    refine ⟨zs.take len, ⟨some a, cap, by rw [hlen]; exact e, ?_, by omega, hm⟩, fun n hn => i64_wf (hw n (List.mem_of_mem_take hn)), ?_⟩
    · by_cases h0 : len = 0
      · exact .inl (by rw [h0]; rfl)
      · obtain ⟨b, o, rfl, hb⟩ := spot_none (hc 0 (by omega))
        refine .inr ⟨b, o, rfl, hb, fun i n hi => ?_⟩
        obtain ⟨h1, h2⟩ := List.getElem?_eq_some_iff.1 hi
        have := hc i (by omega)
        rw [add_plain] at this
        rw [this, List.getD_eq_getElem?_getD, List.getElem?_eq_getElem (by omega)]
        rw [List.getElem_take] at h2
        rw [← h2]; rfl
    · rw [ob3] at hsl
      simp only [lits, List.length_map] at hsl
      exact few_of (b := 8) (by omega) hsl
theorem xs_at {xs : List (DataW H × List MemPlace)} {n i : Nat} (h : xs.length = n) (hi : i < n) : ∃ y, xs[i]? = some y := ⟨xs[i]'(by omega), List.getElem?_eq_getElem (by omega)⟩
theorem eight_l {cs : List Value} (h : cs.length = 8) : ∃ a b c d e f g i, cs = [a, b, c, d, e, f, g, i] := by
  match cs, h with
  | [a, b, c, d, e, f, g, i], _ => exact ⟨a, b, c, d, e, f, g, i, rfl⟩
theorem five_l {cs : List Value} (h : cs.length = 5) : ∃ a b c d e, cs = [a, b, c, d, e] := by
  match cs, h with
  | [a, b, c, d, e], _ => exact ⟨a, b, c, d, e, rfl⟩
/-- The cells of an instruction. -/
theorem opn_ins {fuel : Nat} {cs : List Value} {x : DataW H × List MemPlace} (h : DataW.trod enc Tryz.prog W 0 (fun _ => true) true fuel 39 cs = some x) (hz : Sz 39 x.1) :
    ∃ (y : Ins) (va vt : Value), cs = insC y va vt ∧ IntsV W y.2.2.2.2.1 va ∧ IntsV W y.2.2.2.2.2.1 vt ∧ GxI y := by
  obtain ⟨xs, n, _, rfl, hl, hlen, hf⟩ := DataW.trod_struct Tryz.underlying39 h
  obtain ⟨v0, v1, v2, v3, v4, v5, v6, v7, rfl⟩ := eight_l (hl.trans oc39)
  have fld : ∀ (i : Nat) (ti : TypeId) (y : DataW H × List MemPlace), ((#[_, _, _, _, _, _, _, _] : Array Field).toList.map (·.type))[i]? = some ti → xs[i]? = some y → Sz ti y.1 := fun i ti y ht hy => Sz.field Tryz.underlying39 hz ht (by rw [List.getElem?_map, hy]; rfl)
  obtain ⟨y0, g0⟩ := xs_at hlen (i := 0) (by decide)
  obtain ⟨y1, g1⟩ := xs_at hlen (i := 1) (by decide)
  obtain ⟨y2, g2⟩ := xs_at hlen (i := 2) (by decide)
  obtain ⟨y3, g3⟩ := xs_at hlen (i := 3) (by decide)
  obtain ⟨y4, g4⟩ := xs_at hlen (i := 4) (by decide)
  obtain ⟨y5, g5⟩ := xs_at hlen (i := 5) (by decide)
  obtain ⟨y6, g6⟩ := xs_at hlen (i := 6) (by decide)
  obtain ⟨y7, g7⟩ := xs_at hlen (i := 7) (by decide)
  have f0 : DataW.trod enc Tryz.prog W 0 (fun _ => true) true n 3 ([v0, v1, v2, v3, v4, v5, v6, v7].take (Tryz.prog.cellsOf 3)) = some y0 := (hf 0 _ rfl).trans g0
  have f1 : DataW.trod enc Tryz.prog W 0 (fun _ => true) true n 3 ([v1, v2, v3, v4, v5, v6, v7].take (Tryz.prog.cellsOf 3)) = some y1 := (hf 1 _ rfl).trans g1
  have f2 : DataW.trod enc Tryz.prog W 0 (fun _ => true) true n 2 ([v2, v3, v4, v5, v6, v7].take (Tryz.prog.cellsOf 2)) = some y2 := (hf 2 _ rfl).trans g2
  have f3 : DataW.trod enc Tryz.prog W 0 (fun _ => true) true n 3 ([v3, v4, v5, v6, v7].take (Tryz.prog.cellsOf 3)) = some y3 := (hf 3 _ rfl).trans g3
  have f4 : DataW.trod enc Tryz.prog W 0 (fun _ => true) true n 31 ([v4, v5, v6, v7].take (Tryz.prog.cellsOf 31)) = some y4 := (hf 4 _ rfl).trans g4
  have f5 : DataW.trod enc Tryz.prog W 0 (fun _ => true) true n 31 ([v5, v6, v7].take (Tryz.prog.cellsOf 31)) = some y5 := (hf 5 _ rfl).trans g5
  have f6 : DataW.trod enc Tryz.prog W 0 (fun _ => true) true n 9 ([v6, v7].take (Tryz.prog.cellsOf 9)) = some y6 := (hf 6 _ rfl).trans g6
  have f7 : DataW.trod enc Tryz.prog W 0 (fun _ => true) true n 3 ([v7].take (Tryz.prog.cellsOf 3)) = some y7 := (hf 7 _ rfl).trans g7
  rw [oc3] at f0 f1 f3 f7
  rw [oc2] at f2
  rw [oc31] at f4 f5
  rw [oc9] at f6
  obtain ⟨k, rfl, _⟩ := opn_int f0
  obtain ⟨id, rfl, hid⟩ := opn_int f1
  obtain ⟨nn, rfl, hn⟩ := opn_int2 f2
  obtain ⟨ty, rfl, _⟩ := opn_int f3
  obtain ⟨ar, ha, hai, hal⟩ := opn_ints f4 (Sz.field Tryz.underlying39 hz (i := 4) rfl (by rw [List.getElem?_map, g4]; rfl))
  obtain ⟨tt, ht, hti, htl⟩ := opn_ints f5 (Sz.field Tryz.underlying39 hz (i := 5) rfl (by rw [List.getElem?_map, g5]; rfl))
  obtain ⟨nm, rfl, hnm⟩ := opn_str f6 (Sz.field Tryz.underlying39 hz (i := 6) rfl (by rw [List.getElem?_map, g6]; rfl))
  obtain ⟨pl, rfl, _⟩ := opn_int f7
  exact ⟨(k, id, nn, ty, ar, tt, nm, pl), v4, v5, rfl, ha, ht, hid, hn, hai, hti, hal, htl, hnm⟩
theorem add2 (b o i j : Nat) : ((⟨b, o, none⟩ : Addr).add i).add j = ⟨b, o + i + j, none⟩ := by rw [Deep.add_add, add_plain, Nat.add_assoc]
/-- A block's instructions. -/
theorem opn_blk {fuel : Nat} {v : Value} {x : DataW H × List MemPlace} (h : DataW.trod enc Tryz.prog W 0 (fun _ => true) true fuel 36 [v] = some x) (hz : Sz 36 x.1) : ∃ l : List Ins, BlkR W l v ∧ (∀ y ∈ l, GxI y) ∧ Few l.length := by
  rcases Deep.open_slice Tryz.underlying36 h with ⟨e, _⟩ | ⟨a, len, cap, m, n, D, Pl, e, _, hl, hm, hmm, rfl, hx⟩
  · simp only [List.cons.injEq, and_true] at e
    exact ⟨[], ⟨none, 0, e, Nat.le_refl _, Nat.zero_le _, .inl rfl⟩, fun _ h => (by cases h), by unfold Few; simp⟩
  · simp only [List.cons.injEq, and_true] at e
    rw [if_pos rfl] at hmm
    subst hmm
    have hsl := Sz.len Tryz.underlying36 hz
    rw [ob39] at hsl
    simp only [List.length_map, List.length_range] at hsl
    have each : ∀ i, i < len → ∃ q : Ins, (∃ va vt, (∃ cs, W.cells? 0 (a.add (i * 8)) 8 = some cs ∧ cs = insC q va vt) ∧ IntsV W q.2.2.2.2.1 va ∧ IntsV W q.2.2.2.2.2.1 vt) ∧ GxI q := by
      intro i hi
      obtain ⟨cs, h1, h2⟩ := hx i (by omega)
      rw [oc39] at h1
      obtain ⟨y, va, vt, ec, k1, k2, k3⟩ := opn_ins h2 (Sz.elem Tryz.underlying36 hz (List.mem_map.2 ⟨i, by simpa using hi, rfl⟩))
      exact ⟨y, ⟨va, vt, ⟨cs, h1, ec⟩, k1, k2⟩, k3⟩
    obtain ⟨q, hq⟩ := Deep.choose_lt each
    refine ⟨(List.range len).map q, ⟨some a, m, by rw [e]; simp, by simpa using hl, hm, ?_⟩, fun y hy => ?_, by simpa using few_of (b := 104) (by omega) hsl⟩
    · by_cases h0 : len = 0
      · exact .inl (by rw [h0]; rfl)
      · obtain ⟨⟨va, vt, ⟨cs, h1, h2⟩, _⟩, _⟩ := hq 0 (by omega)
        obtain ⟨_, hcl, hcc⟩ := World.cells?_some h1
        have hc0 := (hcc 0 (by omega)).trans (List.getElem?_eq_getElem (by omega))
        rw [Deep.add_add, Nat.zero_mul] at hc0
        obtain ⟨b, o, rfl, hb⟩ := spot_none hc0
        refine .inr ⟨b, o, rfl, fun i y hi => ?_⟩
        have hi' : i < len := by
          have := (List.getElem?_eq_some_iff.1 hi).1
          simpa using this
        have hy : q i = y := by
          rw [List.getElem?_map, List.getElem?_range hi'] at hi
          exact Option.some.inj hi
        subst hy
        obtain ⟨⟨va, vt, ⟨cs, h1, h2⟩, k1, k2⟩, _⟩ := hq i hi'
        obtain ⟨_, hcl, hcc⟩ := World.cells?_some h1
        refine ⟨hb, va, vt, fun j t hj => ?_, k1, k2⟩
        have hj8 : j < 8 := (List.getElem?_eq_some_iff.1 hj).1
        have := hcc j hj8
        rw [add2] at this
        rw [this, h2]
        exact hj
    · obtain ⟨i, hi, rfl⟩ := List.mem_map.1 hy
      exact (hq i (by simpa using hi)).2
/-- A function's blocks. -/
theorem opn_blks {fuel : Nat} {v : Value} {x : DataW H × List MemPlace} (h : DataW.trod enc Tryz.prog W 0 (fun _ => true) true fuel 32 [v] = some x) (hz : Sz 32 x.1) : ∃ l : List (List Ins), BlksR W l v ∧ (∀ b ∈ l, ∀ y ∈ b, GxI y) ∧ Few l.length := by
  rcases Deep.open_slice1 Tryz.underlying32 oc36 h with ⟨e, _⟩ | ⟨a, len, cap, m, n, V, D, Pl, e, _, hl, hm, hmm, rfl, hx⟩
  · simp only [List.cons.injEq, and_true] at e
    exact ⟨[], ⟨none, 0, e, Nat.le_refl _, Nat.zero_le _, .inl rfl⟩, fun _ h => (by cases h), by unfold Few; simp⟩
  · simp only [List.cons.injEq, and_true] at e
    rw [if_pos rfl] at hmm
    subst hmm
    have hsl := Sz.len Tryz.underlying32 hz
    rw [ob36] at hsl
    simp only [List.length_map, List.length_range] at hsl
    have each : ∀ i, i < len → ∃ q : List Ins, (W.cell? (a.add i) = some (V i) ∧ BlkR W q (V i)) ∧ ∀ y ∈ q, GxI y := by
      intro i hi
      obtain ⟨h1, h2⟩ := hx i (by omega)
      obtain ⟨q, k1, k2, _⟩ := opn_blk h2 (Sz.elem Tryz.underlying32 hz (List.mem_map.2 ⟨i, by simpa using hi, rfl⟩))
      exact ⟨q, ⟨h1, k1⟩, k2⟩
    obtain ⟨q, hq⟩ := Deep.choose_lt each
    refine ⟨(List.range len).map q, ⟨some a, m, by rw [e]; simp, by simpa using hl, hm, ?_⟩, fun y hy => ?_, by simpa using few_of (b := 24) (by omega) hsl⟩
    · by_cases h0 : len = 0
      · exact .inl (by rw [h0]; rfl)
      · obtain ⟨b, o, rfl, hb⟩ := spot_none (hq 0 (by omega)).1.1
        refine .inr ⟨b, o, rfl, hb, fun i y hi => ?_⟩
        have hi' : i < len := by
          have := (List.getElem?_eq_some_iff.1 hi).1
          simpa using this
        have hy : q i = y := by
          rw [List.getElem?_map, List.getElem?_range hi'] at hi
          exact Option.some.inj hi
        subst hy
        obtain ⟨k1, k2⟩ := (hq i hi').1
        rw [add_plain] at k1
        exact ⟨V i, k1, k2⟩
    · obtain ⟨i, hi, rfl⟩ := List.mem_map.1 hy
      exact (hq i (by simpa using hi)).2
/-- The cells of a function. -/
theorem opn_fun {fuel : Nat} {cs : List Value} {x : DataW H × List MemPlace} (h : DataW.trod enc Tryz.prog W 0 (fun _ => true) true fuel 34 cs = some x) (hz : Sz 34 x.1) :
    ∃ (y : Fun) (vp vb : Value), cs = funC y vp vb ∧ IntsV W y.2.1 vp ∧ BlksR W y.2.2.2.1 vb ∧ GxF y := by
  obtain ⟨xs, n, _, rfl, hl, hlen, hf⟩ := DataW.trod_struct Tryz.underlying34 h
  obtain ⟨v0, v1, v2, v3, v4, rfl⟩ := five_l (hl.trans oc34)
  obtain ⟨y0, g0⟩ := xs_at hlen (i := 0) (by decide)
  obtain ⟨y1, g1⟩ := xs_at hlen (i := 1) (by decide)
  obtain ⟨y2, g2⟩ := xs_at hlen (i := 2) (by decide)
  obtain ⟨y3, g3⟩ := xs_at hlen (i := 3) (by decide)
  obtain ⟨y4, g4⟩ := xs_at hlen (i := 4) (by decide)
  have f0 : DataW.trod enc Tryz.prog W 0 (fun _ => true) true n 9 ([v0, v1, v2, v3, v4].take (Tryz.prog.cellsOf 9)) = some y0 := (hf 0 _ rfl).trans g0
  have f1 : DataW.trod enc Tryz.prog W 0 (fun _ => true) true n 31 ([v1, v2, v3, v4].take (Tryz.prog.cellsOf 31)) = some y1 := (hf 1 _ rfl).trans g1
  have f2 : DataW.trod enc Tryz.prog W 0 (fun _ => true) true n 3 ([v2, v3, v4].take (Tryz.prog.cellsOf 3)) = some y2 := (hf 2 _ rfl).trans g2
  have f3 : DataW.trod enc Tryz.prog W 0 (fun _ => true) true n 32 ([v3, v4].take (Tryz.prog.cellsOf 32)) = some y3 := (hf 3 _ rfl).trans g3
  have f4 : DataW.trod enc Tryz.prog W 0 (fun _ => true) true n 3 ([v4].take (Tryz.prog.cellsOf 3)) = some y4 := (hf 4 _ rfl).trans g4
  rw [oc9] at f0
  rw [oc31] at f1
  rw [oc3] at f2 f4
  rw [oc32] at f3
  obtain ⟨nm, rfl, hnm⟩ := opn_str f0 (Sz.field Tryz.underlying34 hz (i := 0) rfl (by rw [List.getElem?_map, g0]; rfl))
  obtain ⟨ps, hp, _, hpl⟩ := opn_ints f1 (Sz.field Tryz.underlying34 hz (i := 1) rfl (by rw [List.getElem?_map, g1]; rfl))
  obtain ⟨rt, rfl, _⟩ := opn_int f2
  obtain ⟨bl, hb, hbg, hbl⟩ := opn_blks f3 (Sz.field Tryz.underlying34 hz (i := 3) rfl (by rw [List.getElem?_map, g3]; rfl))
  obtain ⟨pl, rfl, _⟩ := opn_int f4
  exact ⟨(nm, ps, rt, bl, pl), v1, v3, rfl, hp, hb, hnm, hpl, hbl, hbg⟩
/-- A program's functions. -/
theorem opn_funs {fuel : Nat} {v : Value} {x : DataW H × List MemPlace} (h : DataW.trod enc Tryz.prog W 0 (fun _ => true) true fuel 22 [v] = some x) (hz : Sz 22 x.1) : ∃ l : List Fun, ProgR W l v ∧ (∀ y ∈ l, GxF y) ∧ Few l.length := by
  rcases Deep.open_slice Tryz.underlying22 h with ⟨e, _⟩ | ⟨a, len, cap, m, n, D, Pl, e, _, hl, hm, hmm, rfl, hx⟩
  · simp only [List.cons.injEq, and_true] at e
    exact ⟨[], ⟨none, 0, e, Nat.le_refl _, Nat.zero_le _, .inl rfl⟩, fun _ h => (by cases h), by unfold Few; simp⟩
  · simp only [List.cons.injEq, and_true] at e
    rw [if_pos rfl] at hmm
    subst hmm
    have hsl := Sz.len Tryz.underlying22 hz
    rw [ob34] at hsl
    simp only [List.length_map, List.length_range] at hsl
    have each : ∀ i, i < len → ∃ q : Fun, (∃ va vt, (∃ cs, W.cells? 0 (a.add (i * 5)) 5 = some cs ∧ cs = funC q va vt) ∧ IntsV W q.2.1 va ∧ BlksR W q.2.2.2.1 vt) ∧ GxF q := by
      intro i hi
      obtain ⟨cs, h1, h2⟩ := hx i (by omega)
      rw [oc34] at h1
      obtain ⟨y, va, vt, ec, k1, k2, k3⟩ := opn_fun h2 (Sz.elem Tryz.underlying22 hz (List.mem_map.2 ⟨i, by simpa using hi, rfl⟩))
      exact ⟨y, ⟨va, vt, ⟨cs, h1, ec⟩, k1, k2⟩, k3⟩
    obtain ⟨q, hq⟩ := Deep.choose_lt each
    refine ⟨(List.range len).map q, ⟨some a, m, by rw [e]; simp, by simpa using hl, hm, ?_⟩, fun y hy => ?_, by simpa using few_of (b := 80) (by omega) hsl⟩
    · by_cases h0 : len = 0
      · exact .inl (by rw [h0]; rfl)
      · obtain ⟨⟨va, vt, ⟨cs, h1, h2⟩, _⟩, _⟩ := hq 0 (by omega)
        obtain ⟨_, hcl, hcc⟩ := World.cells?_some h1
        have hc0 := (hcc 0 (by omega)).trans (List.getElem?_eq_getElem (by omega))
        rw [Deep.add_add, Nat.zero_mul] at hc0
        obtain ⟨b, o, rfl, hb⟩ := spot_none hc0
        refine .inr ⟨b, o, rfl, fun i y hi => ?_⟩
        have hi' : i < len := by
          have := (List.getElem?_eq_some_iff.1 hi).1
          simpa using this
        have hy : q i = y := by
          rw [List.getElem?_map, List.getElem?_range hi'] at hi
          exact Option.some.inj hi
        subst hy
        obtain ⟨⟨va, vt, ⟨cs, h1, h2⟩, k1, k2⟩, _⟩ := hq i hi'
        obtain ⟨_, hcl, hcc⟩ := World.cells?_some h1
        refine ⟨hb, va, vt, fun j t hj => ?_, k1, k2⟩
        have hj8 : j < 5 := (List.getElem?_eq_some_iff.1 hj).1
        have := hcc j hj8
        rw [add2] at this
        rw [this, h2]
        exact hj
    · obtain ⟨i, hi, rfl⟩ := List.mem_map.1 hy
      exact (hq i (by simpa using hi)).2
set_option maxRecDepth 20000 in
/-- A program that came in. -/
theorem opn_prog {r : Reach} {b0 : Nat} {v : Value} {d : DataW H} {ps : List MemPlace} (hv : Value.okWide Tryz.prog W r b0 24 v) (h : DataW.Trod enc Tryz.prog W 0 (fun _ => true) true 24 v d ps) (hz : Sz 24 d) :
    ∃ (l : List Fun) (po : Option Addr) (c : Nat), v = .agg #[.slice po l.length c] ∧ ProgR W l (.slice po l.length c) ∧ (∀ y ∈ l, GxF y) ∧ Few l.length := by
  obtain ⟨cs, rfl, hsz⟩ := okWide_struct Tryz.underlying24 hv
  obtain ⟨fuel, hf⟩ := h
  obtain ⟨xs, n, _, hx, hl, hlen, each⟩ := DataW.trod_struct Tryz.underlying24 hf
  have e1 : cs.size = 1 := hsz.trans oc24
  obtain ⟨u, rfl⟩ : ∃ u, cs = #[u] := by
    obtain ⟨l⟩ := cs
    match l, e1 with
    | [u], _ => exact ⟨u, rfl⟩
  obtain ⟨y0, g0⟩ := xs_at hlen (i := 0) (by decide)
  have f0 : DataW.trod enc Tryz.prog W 0 (fun _ => true) true n 22 ([u].take (Tryz.prog.cellsOf 22)) = some y0 := (each 0 _ rfl).trans g0
  rw [oc22] at f0
  have hd : d = .agg (xs.map (·.1)) := congrArg Prod.fst hx
  rw [hd] at hz
  obtain ⟨l, k1, k2, k3⟩ := opn_funs f0 (Sz.field Tryz.underlying24 hz (i := 0) rfl (by rw [List.getElem?_map, g0]; rfl))
  have k1' := k1
  obtain ⟨po, c, rfl, _⟩ := k1
  exact ⟨l, po, c, rfl, k1', k2, k3⟩
set_option maxRecDepth 20000 in
/-- An instruction that came in. -/
theorem opn_instr {r : Reach} {b0 : Nat} {v : Value} {d : DataW H} {ps : List MemPlace} (hv : Value.okWide Tryz.prog W r b0 39 v) (h : DataW.Trod enc Tryz.prog W 0 (fun _ => true) true 39 v d ps) (hz : Sz 39 d) :
    ∃ x : Ins, InsV W x v ∧ GxI x := by
  obtain ⟨cs, rfl, hsz⟩ := okWide_struct Tryz.underlying39 hv
  obtain ⟨fuel, hf⟩ := h
  obtain ⟨y, va, vt, ec, ⟨ao, ca, rfl, s1, s2, s3⟩, ⟨to, ct, rfl, t1, t2, t3⟩, k3⟩ := opn_ins hf hz
  refine ⟨y, ⟨ao, to, ca, ct, ?_, s1, t1, s2, s3, t2, t3⟩, k3⟩
  have : cs = (insC y (.slice ao y.2.2.2.2.1.length ca) (.slice to y.2.2.2.2.2.1.length ct)).toArray := by
    rw [← ec]; simp [Value.cells]
  rw [this]; rfl
end
end Go.Proofs.YtahhbckccdigoaaGreatDoor
namespace Go.Proofs.YtahhbckccdigoaaGreatDoor
open Go Go.RowKit
open G (Tok Er Ins Fun peek0 peek1 atOf)
theorem GxF.ok {f : Fun} (h : GxF f) : OkF f := by
  obtain ⟨h1, _, _, h4⟩ := h
  unfold Few at h1
  refine ⟨by unfold maxLen; omega, fun b hb x hx => ?_⟩
  obtain ⟨_, k2, _, _, _, _, k7⟩ := h4 b hb x hx
  unfold Few at k7
  exact ⟨k2, by unfold maxLen; omega⟩
theorem GxF.sh {f : Fun} (h : GxF f) : ShF f := by
  obtain ⟨h1, h2, h3, h4⟩ := h
  refine ⟨h1, h2, h3, fun b hb x hx => ?_⟩
  obtain ⟨_, _, _, _, k5, k6, k7⟩ := h4 b hb x hx
  exact ⟨k5, k6, k7⟩
theorem lawChecks (x : Ins) (v : Value) (p : List Fun) (po : Option Addr) (c : Nat) (W : World) (hx : InsV W x v) (gx : GxI x) (hp : ProgR W p (.slice po p.length c)) (gp : ∀ y ∈ p, GxF y) (fp : Few p.length) (ht : Tb W) :
    Calls Tryz.prog 4 #[v, .agg #[.slice po p.length c]] W fun e W' => e = .returned (.bool true) ∧ Below W.heap.size W W' := by
  obtain ⟨_, k2, _, _, _, _, k7⟩ := gx
  unfold Few at k7
  exact law_checks_any x v p po c W hx k2 (by unfold maxLen; omega) hp ht (fun f hf => (gp f hf).ok) fp (fun f hf => (gp f hf).sh)
end Go.Proofs.YtahhbckccdigoaaGreatDoor
