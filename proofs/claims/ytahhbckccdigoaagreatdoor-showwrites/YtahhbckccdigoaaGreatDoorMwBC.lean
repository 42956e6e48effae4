/- Layer 7, the reference: whether a program may be written: Whole. -/
import Derived.Test.YtahhbckccdigoaaGreatDoorMwAC
import Derived.Test.YtahhbckccdigoaaGreatDoorMwAD
import Derived.Test.YtahhbckccdigoaaGreatDoorMwAF
import Derived.Test.YtahhbckccdigoaaGreatDoorMwAG
import Derived.Test.YtahhbckccdigoaaGreatDoorMwAN
import Derived.Test.YtahhbckccdigoaaGreatDoorMwAO
import Derived.Test.YtahhbckccdigoaaGreatDoorMwAU
import Derived.Test.YtahhbckccdigoaaGreatDoorMwBB
namespace Go.Proofs.YtahhbckccdigoaaGreatDoor
open Go Go.RowKit
open G (Tok Er Ins Fun)
/-- What a program's check comes to behind a function's instructions. -/
def finW (i : Nat) (x : Nat × Int) (r : List Fun) : Int × Int := if x.2 ≠ 0 then (x.2, (i : Int)) else wholeF (i + 1) x.1 r
theorem whole_fin {i m : Nat} {f : Fun} (r : List Fun) (hi : i ≠ 32) (hh : headC f = 0) : wholeF i m (f :: r) = finW i (runB m f.2.2.2.1) r := by
  rw [wholeF, if_neg hi, if_neg (by simp [hh])]; rfl
theorem fin_bad {i m : Nat} {z : Int} (r : List Fun) (h : z ≠ 0) : finW i (m, z) r = (z, (i : Int)) := by unfold finW; rw [if_pos h]
theorem fin_good (i m : Nat) (r : List Fun) : finW i (m, 0) r = wholeF (i + 1) m r := by unfold finW; simp
theorem rhead_any (i : Nat) (f : Fun) (v : Value) (w : World) (h : FunV w f v) (hO : OkF f) (hi : i ≤ 32) : Calls Tryz.prog 22 #[v, .int .i64 i] w fun e w' => e = .returned (.int .i64 (rheadC i f)) ∧ Below w.heap.size w w' := by
  obtain ⟨nm, ps, rt, bl, pl⟩ := f
  obtain ⟨vp, vb, rfl, ⟨ao, c, rfl, h1, h2, h3⟩, ⟨bo, cb, rfl, h4, h5, _⟩⟩ := h
  exact rhead_try i nm ps rt pl bl ao bo c cb w h1 ⟨Nat.le_trans h2 h3, Nat.le_trans h4 h5⟩ hO.1 (by unfold maxLen; omega)
set_option maxHeartbeats 4000000 in
set_option maxRecDepth 20000 in
theorem rwhole_try (p : List Fun) (ao : Option Addr) (c : Nat) (w : World) (hp : ProgR w p (.slice ao p.length c)) (hO : ∀ f ∈ p, OkF f) :
    Calls Tryz.prog 8 #[.agg #[.slice ao p.length c]] w fun e w' => e = .returned (.agg #[.int .i64 (wholeF 0 0 p).1, .int .i64 (wholeF 0 0 p).2]) ∧ Below w.heap.size w w' := by
  obtain ⟨b0, h0, h1, hz0⟩ := two_boxes w (.slice ao p.length c)
  have H0 := hide h0
  have H1 := hide h1
  have HP := hide (hp.below b0)
  have B0 := hide b0
  have HO := hide hO
  have hpc : p.length ≤ c ∧ c ≤ maxLen := by
    obtain ⟨ao', c', e, h1, h2, _⟩ := hp
    injection e with e1 e2 e3
    subst e3
    exact ⟨h1, h2⟩
  unfold maxLen at hpc
  clear b0 h0 h1 hp hO
  go_enter Tryz.func8, Tryz.ntmps8
  go_upto_region 1 with fail
  show Code.wp _ _ _ _ ((w.alloc (.cells #[.slice ao p.length c] 24)).alloc (.cells #[.int .i64 0, .int .i64 0] 28))
  generalize (w.alloc (.cells #[.slice ao p.length c] 24)).alloc (.cells #[.int .i64 0, .int .i64 0] 28) = W at *
  go_wp2_with fail
  go_loopw [3, 4] (fun mm i wr => ∃ (m K : Nat), m ≤ 4096 ∧ mm = .int .i64 m ∧ K ≤ p.length ∧ K ≤ 32 ∧ i = .int .i64 K ∧ Hid (wholeF 0 0 p = wholeF K m (p.drop K)) ∧ Hid (Below W.heap.size W wr)) (fun _ i _ => p.length - (intOf i).toNat)
  case atStart => exact ⟨0, 0, by omega, rfl, Nat.zero_le _, by omega, rfl, hide rfl, hide (Below.refl _ _)⟩
  case round =>
    obtain ⟨m, K, hm, rfl, hK, hK32, rfl, HR, HW⟩ := hrel
    have c0 := cell9 ((HW.out.block _ (Nat.lt_trans (Nat.lt_succ_self _) hz0)).trans H0.out)
    by_cases hkt : K < p.length
    · obtain ⟨f, hfK⟩ : ∃ f, p[K]? = some f := ⟨p[K], List.getElem?_eq_some_iff.2 ⟨hkt, rfl⟩⟩
      obtain ⟨ao', c', eq', hh1, hh2, hh3⟩ := HP.out
      injection eq' with e1 e2 e3
      subst e1 e3
      rcases hh3 with hh3 | ⟨gb, ob, rfl, hin⟩
      · subst hh3; simp at hkt
      obtain ⟨aoy, boy, cy, cby, hv, q0, q1, q2, q3, q4⟩ := ((hin K f hfK).below HW.out).val
      have HV := hide hv
      have HOf := hide (HO.out f (List.mem_of_getElem? hfK))
      have hkI : (K : Int) < p.length := by omega
      have HR2 := hide (HR.out.trans (by rw [wdrop_at hfK]))
      obtain ⟨nm, ps, rt, bl, pl⟩ := f
      dsimp only at HV q0 q1 q2 q3 q4
      clear hin hfK hv HR
      have B7 := hide (below_box wr (.cells #[.string (bs nm), .slice aoy ps.length cy, .int .i64 rt, .slice boy bl.length cby, .int .i64 pl] 34))
      have H7 := hide (heap_alloc_new wr (.cells #[.string (bs nm), .slice aoy ps.length cy, .int .i64 rt, .slice boy bl.length cby, .int .i64 pl] 34))
      have hl7 := hide (Array.getElem?_eq_some_iff.1 H7.out).1
      go_wp2_with fail
      refine (rhead_any K (nm, ps, rt, bl, pl) _ _ (HV.out.below B7.out) HOf.out hK32).mono ?_; rintro e w8 ⟨rfl, b8⟩
      have HW8 := hide (below_step HW.out (below_step B7.out b8))
      have hwl : wr.heap.size < w8.heap.size := Nat.lt_of_lt_of_le hl7.out b8.size
      have H8 := hide ((b8.block _ hl7.out).trans H7.out)
      have HV8 := hide (HV.out.below (below_step B7.out b8))
      clear b8 q0 q1 q2 q3 q4
      by_cases hh : rheadC K (nm, ps, rt, bl, pl) = 0
      · have h32 : K ≠ 32 := fun e => by subst e; unfold rheadC at hh; rw [if_pos (Nat.le_refl _)] at hh; cases hh
        have HH : Hid (headC (nm, ps, rt, bl, pl) = 0) := hide (by unfold rheadC at hh; rwa [if_neg (by omega)] at hh)
        have HRF : Hid (wholeF 0 0 p = finW K (runB m (bl.drop 0)) (p.drop (K + 1))) := hide (HR2.out.trans (whole_fin _ h32 HH.out))
        have HBL : Hid (BlksR w8 bl (.slice boy bl.length cby)) := hide (by
          obtain ⟨vp, vb, e, _, h2⟩ := HV8.out
          injection e with e
          have e2 := congrArg (fun a => a[3]?) e
          simp at e2
          rw [e2]; exact h2)
        have O2 := hide HOf.out.2
        dsimp only at O2
        rw [hh]
        clear hh HR2
        go_wp2_with fail
        obtain ⟨w0, hw0⟩ : ∃ w0, w0 = w8 := ⟨_, rfl⟩
        rw [← hw0] at HW8 H8 HBL hwl ⊢
        clear hw0 HV8
        go_loopw [3, 7] (fun mm i wr' => ∃ (m A : Nat), m ≤ 4096 ∧ mm = .int .i64 m ∧ A ≤ bl.length ∧ i = .int .i64 A ∧ Hid (wholeF 0 0 p = finW K (runB m (bl.drop A)) (p.drop (K + 1))) ∧ Hid (Below w0.heap.size w0 wr')) (fun _ i _ => bl.length - (intOf i).toNat)
        case atStart => exact ⟨m, 0, hm, rfl, Nat.zero_le _, rfl, HRF, hide (Below.refl _ _)⟩
        case round =>
          obtain ⟨m1, A, hm1, rfl, hA, rfl, HRA, HWA⟩ := hrel
          obtain ⟨s0, s1, s2, s3, s4⟩ := box5 ((HWA.out.block _ hwl).trans H8.out)
          clear s0 s1 s2 s4
          obtain ⟨ao2, c2', eq2, hh1, hh2, hh3⟩ := HBL.out
          injection eq2 with e1 e2 e3
          subst e1 e3
          unfold maxLen at hh2
          by_cases hat : A < bl.length
          · obtain ⟨b, hbA⟩ : ∃ b, bl[A]? = some b := ⟨bl[A], List.getElem?_eq_some_iff.2 ⟨hat, rfl⟩⟩
            rcases hh3 with hh3 | ⟨gc, oc, rfl, hgc, hbl⟩
            · subst hh3; simp at hat
            obtain ⟨vk, kd, kk⟩ := hbl A b hbA
            have KD := hide kd
            obtain ⟨aok, capk, rfl, lk1, lk2, kins⟩ := kk
            have HOb := hide (O2.out b (List.mem_of_getElem? hbA))
            have KI := hide kins
            have haI : (A : Int) < bl.length := by omega
            have HR3 : Hid (wholeF 0 0 p = finW K (midB m1 (b.drop 0) (bl.drop (A + 1))) (p.drop (K + 1))) := hide (by rw [HRA.out, wdrop_at hbA]; rfl)
            unfold maxLen at lk2
            clear kins kd hbl hbA HRA
            go_wp2_with fail
            clear s3
            go_loopw [3, 8] (fun mm i wr'' => ∃ (m J : Nat), m ≤ 4096 ∧ mm = .int .i64 m ∧ J ≤ b.length ∧ i = .int .i64 J ∧ Hid (wholeF 0 0 p = finW K (midB m (b.drop J) (bl.drop (A + 1))) (p.drop (K + 1))) ∧ Hid (Below w0.heap.size w0 wr'')) (fun _ i _ => b.length - (intOf i).toNat)
            case atStart => exact ⟨m1, 0, hm1, rfl, Nat.zero_le _, rfl, HR3, HWA⟩
            case round =>
              obtain ⟨m2, J, hm2, rfl, hJ, rfl, HRJ, HWJ⟩ := hrel
              obtain ⟨s0, s1, s2, s3, s4⟩ := box5 ((HWJ.out.block _ hwl).trans H8.out)
              clear s0 s1 s2 s4
              have kd' := (HWJ.out.cell (p := ⟨gc, oc + A, none⟩) hgc).trans KD.out
              by_cases hjt : J < b.length
              · obtain ⟨y, hyJ⟩ : ∃ y, b[J]? = some y := ⟨b[J], List.getElem?_eq_some_iff.2 ⟨hjt, rfl⟩⟩
                rcases KI.out with hh | ⟨gi, oi, rfl, hin⟩
                · subst hh; simp at hjt
                obtain ⟨aoz, toz, caz, ctz, hv, r0, r1, r2, r3, r4, r5, r6, r7⟩ := ((hin J y hyJ).below HWJ.out).val
                have HVy := hide hv
                have HOy := hide (HOb.out y (List.mem_of_getElem? hyJ))
                have hjI : (J : Int) < b.length := by omega
                have HR4 := hide (HRJ.out.trans (by rw [wdrop_at hyJ]))
                obtain ⟨op, id, nn, ty, ar, tt, na, pp⟩ := y
                dsimp only at HVy r0 r1 r2 r3 r4 r5 r6 r7
                clear hin hyJ hv HRJ
                by_cases h4 : m2 = 4096
                · subst h4
                  have HE := hide (HR4.out.trans (by rw [midB_full]; exact fin_bad _ (by decide) : _ = ((6 : Int), (K : Int))))
                  obtain ⟨d0, d1, z0, z1⟩ := err_box (((below_step HW8.out HWJ.out).block _ hz0).trans H1.out)
                  go_wp2_with fail
                  exact bodyPost_ret (v := .agg #[.int .i64 6, .int .i64 (K : Int)]) (by simp [results, Tryz.results8, go_sem, d0, d1]) rfl ⟨by rw [HE.out], err_below B0.out (below_step HW8.out HWJ.out)⟩
                · have h4' : ¬ (4096 : Int) < (m2 : Int) + 1 := by omega
                  go_wp2_with fail
                  refine (rcheck_any (op, id, nn, ty, ar, tt, na, pp) _ _ HVy.out HOy.out.1 HOy.out.2).mono ?_; rintro e w9 ⟨rfl, b9⟩
                  have HW9 := hide (below_step HWJ.out b9)
                  clear r0 r1 r2 r3 r4 r5 r6 r7 b9 s3 kd'
                  by_cases hcx : checkC (op, id, nn, ty, ar, tt, na, pp) = 0
                  · have HE := hide (HR4.out.trans (by rw [midB_good _ _ h4 hcx]))
                    rw [hcx]
                    go_wp2_with fail
                    go_roundw
                    case rel => exact ⟨m2 + 1, J + 1, by omega, by go_num, by omega, by go_num, HE, HW9⟩
                    case measure => simp [intOf]; omega
                  · have HE := hide (HR4.out.trans (by rw [midB_bad _ _ h4 hcx]; exact fin_bad _ hcx : _ = (checkC (op, id, nn, ty, ar, tt, na, pp), (K : Int))))
                    have hcx' : (checkC (op, id, nn, ty, ar, tt, na, pp) != 0) = true := by simpa using hcx
                    generalize checkC (op, id, nn, ty, ar, tt, na, pp) = z at *
                    obtain ⟨d0, d1, z0, z1⟩ := err_box (((below_step HW8.out HW9.out).block _ hz0).trans H1.out)
                    go_wp2_with fail
                    exact bodyPost_ret (v := .agg #[.int .i64 z, .int .i64 (K : Int)]) (by simp [results, Tryz.results8, go_sem, d0, d1]) rfl ⟨by rw [HE.out], err_below B0.out (below_step HW8.out HW9.out)⟩
              · obtain rfl : J = b.length := by omega
                have HE := hide (HRJ.out.trans (by rw [List.drop_length, midB_nil] : _ = finW K (runB m2 (bl.drop (A + 1))) (p.drop (K + 1))))
                go_wp2_with fail
                go_roundw
                case rel => exact ⟨m2, A + 1, hm2, rfl, by omega, by go_num, HE, HWJ⟩
                case measure => simp [intOf]; omega
          · obtain rfl : A = bl.length := by omega
            have HE := hide (HRA.out.trans (by rw [List.drop_length]; exact fin_good _ _ _ : _ = wholeF (K + 1) m1 (p.drop (K + 1))))
            have HWF := hide (below_step HW8.out HWA.out)
            go_wp2_with fail
            go_roundw
            case rel => exact ⟨m1, K + 1, hm1, rfl, by omega, by omega, by go_num, HE, HWF⟩
            case measure => simp [intOf]; omega
      · have HE : Hid (wholeF 0 0 p = (rheadC K (nm, ps, rt, bl, pl), (K : Int))) := hide (by
          rw [HR2.out]
          by_cases h32 : K = 32
          · subst h32; rw [whole_many]; rfl
          · have e : rheadC K (nm, ps, rt, bl, pl) = headC (nm, ps, rt, bl, pl) := if_neg (by omega)
            rw [e]; exact whole_head _ _ h32 (by rw [← e]; exact hh))
        have hh2 : (rheadC K (nm, ps, rt, bl, pl) != 0) = true := by simpa using hh
        generalize rheadC K (nm, ps, rt, bl, pl) = z at *
        clear hh
        obtain ⟨d0, d1, z0, z1⟩ := err_box ((HW8.out.block _ hz0).trans H1.out)
        go_wp2_with fail
        exact bodyPost_ret (v := .agg #[.int .i64 z, .int .i64 (K : Int)]) (by simp [results, Tryz.results8, go_sem, d0, d1]) rfl ⟨by rw [HE.out], err_below B0.out HW8.out⟩
    · obtain rfl : K = p.length := by omega
      have HE : Hid (wholeF 0 0 p = (0, 0)) := hide (HR.out.trans (by rw [List.drop_length]; rfl))
      obtain ⟨d0, d1, z0, z1⟩ := err_box ((HW.out.block _ hz0).trans H1.out)
      go_wp2_with fail
      exact bodyPost_ret (v := .agg #[.int .i64 0, .int .i64 0]) (by simp [results, Tryz.results8, go_sem, d0, d1]) rfl ⟨by rw [HE.out], err_below B0.out HW.out⟩
end Go.Proofs.YtahhbckccdigoaaGreatDoor
namespace Go.Proofs.YtahhbckccdigoaaGreatDoor.G
/-- But for where it stands. -/
def noI (x : Ins) : Ins := (x.1, x.2.1, x.2.2.1, x.2.2.2.1, x.2.2.2.2.1, x.2.2.2.2.2.1, x.2.2.2.2.2.2.1, 0)
def noB (b : List Ins) : List Ins := b.map noI
def noF (f : Fun) : Fun := (f.1, f.2.1, f.2.2.1, f.2.2.2.1.map noB, 0)
section
variable (dig : Int → List UInt8) (iw : Int → Int → List UInt8) (mks : Int → Int → Int)
/-- The words behind an instruction's own word, and all its words. -/
def opdS (x : Ins) : List (List UInt8) :=
  if x.1 = 1 ∨ x.1 = 23 ∨ x.1 = 29 then [dig x.2.2.1]
  else if x.1 = 10 then [x.2.2.2.2.2.2.1]
  else if x.1 = 11 ∨ x.1 = 12 ∨ x.1 = 15 ∨ x.1 = 24 ∨ x.1 = 13 ∨ x.1 = 14 then (x.2.2.2.2.1.take 1).map (fun n => 37 :: dig n) ++ [dig x.2.2.1] ++ (x.2.2.2.2.1.drop 1).map (fun n => 37 :: dig n)
  else if x.1 = 20 then (x.2.2.2.2.2.1.zip x.2.2.2.2.1).flatMap fun q => [98 :: dig q.1, 37 :: dig q.2]
  else if x.1 = 21 then (if x.2.2.1 ≠ 0 then [64 :: dig x.2.2.1] else []) ++ [x.2.2.2.2.2.2.1] ++ x.2.2.2.2.1.map (fun n => 37 :: dig n)
  else x.2.2.2.2.1.map (fun n => 37 :: dig n) ++ x.2.2.2.2.2.1.map (fun n => 98 :: dig n)
def insS (x : Ins) : List (List UInt8) := (if mks x.1 x.2.2.2.1 ≠ 0 then [37 :: dig x.2.1, [61]] else []) ++ [iw x.1 x.2.2.2.1] ++ opdS dig x
variable (ltr : Int → List UInt8)
end
section
variable (nam : List UInt8 → Bool) (shp : List UInt8 → Int) (tks : Int → Nat)
/-- What an instruction has is what its operation has. -/
def Fits (op n : Int) (ar tt : List Int) (nm : List UInt8) : Prop :=
  if op = 1 then ar = [] ∧ tt = [] ∧ nm = [] ∧ -9223372036854775808 ≤ n ∧ n ≤ 9223372036854775807
  else if op = 29 then ar = [] ∧ tt = [] ∧ nm = [] ∧ 0 ≤ n ∧ n ≤ 255
  else if op = 10 then ar = [] ∧ tt = [] ∧ n = 0 ∧ shp nm = 0
  else if op = 20 then ar.length = tt.length ∧ tt ≠ [] ∧ n = 0 ∧ nm = []
  else if op = 21 then tt = [] ∧ 0 ≤ n ∧ n ≤ 1048576 ∧ nam nm = true
  else if op = 28 then ar.length ≤ 1 ∧ tt = [] ∧ n = 0 ∧ nm = []
  else if op = 11 ∨ op = 12 ∨ op = 15 then ar.length = 1 ∧ tt = [] ∧ nm = [] ∧ 0 ≤ n ∧ n ≤ 15
  else if op = 13 ∨ op = 14 then ar.length = 2 ∧ tt = [] ∧ nm = [] ∧ 0 ≤ n ∧ n ≤ 15
  else if op = 23 then ar = [] ∧ tt = [] ∧ nm = [] ∧ 0 ≤ n ∧ n ≤ 1048576
  else if op = 24 then ar.length = 1 ∧ tt = [] ∧ nm = [] ∧ 0 ≤ n ∧ n ≤ 1048576
  else if op = 26 then ar = [] ∧ tt.length = 1 ∧ n = 0 ∧ nm = []
  else if op = 27 then ar.length = 1 ∧ tt.length = 2 ∧ n = 0 ∧ nm = []
  else ar.length = tks op ∧ tt = [] ∧ n = 0 ∧ nm = []
def Vals (ar : List Int) : Prop := ∀ a ∈ ar, 0 ≤ a ∧ a ≤ 1048576
def Labs (tt : List Int) : Prop := ∀ a ∈ tt, 0 ≤ a ∧ a ≤ 255
variable (good : Int → Int → Bool) (mks : Int → Int → Int)
/-- An instruction may be written. -/
def MayI (x : Ins) : Prop := good x.1 x.2.2.2.1 = true ∧ (mks x.1 x.2.2.2.1 = 0 → x.2.1 = -1) ∧ (mks x.1 x.2.2.2.1 ≠ 0 → 0 ≤ x.2.1 ∧ x.2.1 ≤ 1048576) ∧ Vals x.2.2.2.2.1 ∧ Labs x.2.2.2.2.2.1 ∧ Fits nam shp tks x.1 x.2.2.1 x.2.2.2.2.1 x.2.2.2.2.2.1 x.2.2.2.2.2.2.1
def MayF (f : Fun) : Prop := nam f.1 = true ∧ f.2.1.length ≤ 8 ∧ (∀ t ∈ f.2.1, 1 ≤ t ∧ t ≤ 2) ∧ 0 ≤ f.2.2.1 ∧ f.2.2.1 ≤ 2 ∧ f.2.2.2.1.length ≤ 256 ∧ ∀ b ∈ f.2.2.2.1, ∀ x ∈ b, MayI nam shp tks good mks x
end
/-- What the words' own functions keep to. -/
def Words (num : List UInt8 → Int × Int) (idx : List UInt8 → Int → Option Int) (nam : List UInt8 → Bool) (shp : List UInt8 → Int) (fnd : List UInt8 → Int × Int) (prt : Nat → List UInt8 → Bool)
    (dig : Int → List UInt8) (iw : Int → Int → List UInt8) (good : Int → Int → Bool) (ltr : Int → List UInt8) : Prop :=
  (∀ n, -9223372036854775808 ≤ n → n ≤ 9223372036854775807 → num (dig n) = (n, 0)) ∧
  (∀ n most, 0 ≤ n → n ≤ most → most ≤ 1048576 → idx (dig n) most = some n) ∧
  (∀ n, dig n ≠ [] ∧ dig n ≠ [114]) ∧
  ((num [61]).2 ≠ 0 ∧ (num [58]).2 ≠ 0) ∧
  (nam [61] = false ∧ nam [58] = false ∧ ∀ s, nam s = true → s.head? ≠ some 64) ∧
  (shp [61] ≠ 0 ∧ shp [58] ≠ 0) ∧
  (∀ op t, good op t = true → fnd (iw op t) = (op, t)) ∧
  (∀ op t, good op t = true → op ≠ 0) ∧
  (∀ op t, good op t = true → (iw op t).head? ≠ some 37 ∧ iw op t ≠ [61] ∧ iw op t ≠ [58] ∧ iw op t ≠ [125]) ∧
  (∀ op t, good op t = true → (iw op t).head? = some 98 → iw op t = [98, 114]) ∧
  (∀ k, k < 256 → prt k (98 :: dig (k : Int)) = true) ∧
  (∀ t, 0 ≤ t → t ≤ 2 → kind (ltr t) = t)
section
variable {E : Int} {num : List UInt8 → Int × Int} {idx : List UInt8 → Int → Option Int} {nam : List UInt8 → Bool} {shp : List UInt8 → Int} {tks : Int → Nat} {fnd : List UInt8 → Int × Int} {mks : Int → Int → Int} {prt : Nat → List UInt8 → Bool}
variable {dig : Int → List UInt8} {iw : Int → Int → List UInt8} {good : Int → Int → Bool} {ltr : Int → List UInt8}
theorem Words.dig_ne (W : Words num idx nam shp fnd prt dig iw good ltr) : ∀ n, dig n ≠ [] ∧ dig n ≠ [114] := W.2.2.1
end
end Go.Proofs.YtahhbckccdigoaaGreatDoor.G
namespace Go.Proofs.YtahhbckccdigoaaGreatDoor.G
/-- The bytes of words. -/
def ms (l : List Tok) : Nat := (l.map fun t => t.1.length).sum
/-- What is read is fine, and takes so many bytes away. -/
def Got {α : Type} (l : List Tok) (x : Except Er (α × List Tok)) (P : α → Nat → Prop) : Prop := ∀ v r, x = .ok (v, r) → ∃ k, P v k ∧ ms r + k ≤ ms l
theorem Got.then {α β : Type} {l : List Tok} {x : Except Er (α × List Tok)} {f : α → Rd β} {P : α → Nat → Prop} {Q : β → Nat → Prop} (h : Got l x P) (g : ∀ v k, P v k → ∀ q, Got q (f v q) (fun u j => Q u (k + j))) : Got l (andThen x f) Q := by
  intro v r e
  obtain ⟨u, q, e1, e2⟩ := then_ok e
  obtain ⟨k, hk, hl⟩ := h u q e1
  obtain ⟨j, hj, hl2⟩ := g u k hk q v r e2
  exact ⟨k + j, hj, by omega⟩
theorem Got.done {α : Type} {l : List Tok} {v : α} {P : α → Nat → Prop} (h : P v 0) : Got l (done v l) P := by
  intro u r e
  cases e
  exact ⟨0, h, by omega⟩
theorem Got.ok {α : Type} {l : List Tok} {v : α} {P : α → Nat → Prop} (h : P v 0) : Got l (.ok (v, l)) P := Got.done h
theorem Got.long {α : Type} {f : List UInt8 → Option α} {c : List UInt8 → Int} {E : Int} {l : List Tok} {P : α → Nat → Prop} (h0 : f [] = none) (h : ∀ s v, f s = some v → ∃ k, P v k ∧ k ≤ s.length) : Got l (one f c E l) P := by
  intro v r e
  obtain ⟨hl, rfl, hv⟩ := one_ok h0 e
  obtain ⟨k, hk, hle⟩ := h _ _ hv
  refine ⟨k, hk, ?_⟩
  cases l with
  | nil => exact absurd rfl hl
  | cons t r =>
    have : k ≤ t.1.length := hle
    simp only [ms, List.tail_cons, List.map_cons, List.sum_cons]
    omega
theorem Got.one {α : Type} {f : List UInt8 → Option α} {c : List UInt8 → Int} {E : Int} {l : List Tok} {P : α → Nat → Prop} (h0 : f [] = none) (h : ∀ s v, f s = some v → P v 1) : Got l (one f c E l) P :=
  Got.long h0 fun s v hv => ⟨1, h s v hv, by
    cases s with
    | nil => rw [h0] at hv; cases hv
    | cons => simp⟩
theorem Got.mono {α : Type} {l : List Tok} {x : Except Er (α × List Tok)} {P Q : α → Nat → Prop} (h : Got l x P) (g : ∀ v k, P v k → Q v k) : Got l x Q := fun v r e =>
  let ⟨k, hk, hl⟩ := h v r e
  ⟨k, g v k hk, hl⟩
/-- What the words' own functions answer. -/
def Reads (num : List UInt8 → Int × Int) (idx : List UInt8 → Int → Option Int) (nam : List UInt8 → Bool) (shp : List UInt8 → Int) (fnd : List UInt8 → Int × Int) (good : Int → Int → Bool) : Prop :=
  (∀ s, (num s).2 = 0 → -9223372036854775808 ≤ (num s).1 ∧ (num s).1 ≤ 9223372036854775807) ∧
  (∀ s most n, idx s most = some n → 0 ≤ n ∧ n ≤ most) ∧
  (∀ s, (fnd s).1 ≠ 0 → good (fnd s).1 (fnd s).2 = true) ∧
  ((num []).2 ≠ 0) ∧
  (nam [] = false) ∧
  (shp [] ≠ 0) ∧
  ((fnd []).1 = 0)
section
variable {E : Int} {num : List UInt8 → Int × Int} {idx : List UInt8 → Int → Option Int} {nam : List UInt8 → Bool} {shp : List UInt8 → Int} {tks : Int → Nat} {fnd : List UInt8 → Int × Int} {mks : Int → Int → Int} {prt : Nat → List UInt8 → Bool}
variable {dig : Int → List UInt8} {iw : Int → Int → List UInt8} {good : Int → Int → Bool} {l : List Tok}
theorem Reads.num_nil (W : Reads num idx nam shp fnd good) : (num []).2 ≠ 0 := W.2.2.2.1
theorem Reads.nam_nil (W : Reads num idx nam shp fnd good) : nam [] = false := W.2.2.2.2.1
theorem Reads.shp_nil (W : Reads num idx nam shp fnd good) : shp [] ≠ 0 := W.2.2.2.2.2.1
theorem Reads.fnd_nil (W : Reads num idx nam shp fnd good) : (fnd []).1 = 0 := W.2.2.2.2.2.2
theorem pairs_len (t a : List Int) (h : a.length = t.length) : ((t.zip a).flatMap fun q => [98 :: dig q.1, 37 :: dig q.2]).length = 2 * t.length := by
  induction t generalizing a with
  | nil => simp
  | cons b t ih =>
    cases a with
    | nil => simp at h
    | cons v a =>
      have := ih a (by simpa using h)
      simp only [List.zip_cons_cons, List.flatMap_cons, List.length_append, List.length_cons, List.length_nil] at this ⊢
      omega
/-- How many words and numbers there are. -/
def wI (dig : Int → List UInt8) (iw : Int → Int → List UInt8) (mks : Int → Int → Int) (x : Ins) : Nat := (insS dig iw mks x).length + x.2.2.2.2.1.length + x.2.2.2.2.2.1.length
def wB (dig : Int → List UInt8) (iw : Int → Int → List UInt8) (mks : Int → Int → Int) (b : List Ins) : Nat := (b.map (wI dig iw mks)).sum + 2
def wF (dig : Int → List UInt8) (iw : Int → Int → List UInt8) (mks : Int → Int → Int) (f : Fun) : Nat := f.2.1.length + (f.2.2.2.1.map (wB dig iw mks)).sum + 7
end
end Go.Proofs.YtahhbckccdigoaaGreatDoor.G
namespace Go.Proofs.YtahhbckccdigoaaGreatDoor.L2
open Go.RowKit
/-- A text that has these words wherever it stands, and whatever stands behind it. -/
def Wd (t : List UInt8) (us : List (List UInt8)) : Prop := ∀ (pre m : List UInt8) (acc : List (Nat × Nat)), ∃ qs, scan (t ++ m) pre.length acc none false = scan m (pre ++ t).length (acc ++ qs) none false ∧ ∀ m', qs.map (cut (pre ++ t ++ m')) = us
theorem Wd.nil : Wd [] [] := fun pre m acc => ⟨[], by simp, fun _ => rfl⟩
theorem Wd.app {t t' : List UInt8} {us us' : List (List UInt8)} (h : Wd t us) (h' : Wd t' us') : Wd (t ++ t') (us ++ us') := by
  intro pre m acc
  obtain ⟨qs, e, c⟩ := h pre (t' ++ m) acc
  obtain ⟨qs', e', c'⟩ := h' (pre ++ t) m (acc ++ qs)
  refine ⟨qs ++ qs', ?_, fun m' => ?_⟩
  · rw [List.append_assoc, e, e']; simp
  · rw [List.map_append]
    have h1 := c (t' ++ m')
    have h2 := c' m'
    simp only [List.append_assoc] at h1 h2 ⊢
    rw [h1, h2]
/-- A byte between words; one that is a word. -/
def Bla (c : UInt8) : Prop := togB c.toNat = false ∧ aloB c.toNat = false ∧ ¬ (c.toNat : Int) = 35 ∧ blaB c.toNat = true
def Alo (c : UInt8) : Prop := togB c.toNat = false ∧ aloB c.toNat = true
theorem Wd.bla {c : UInt8} (h : Bla c) : Wd [c] [] := by
  intro pre m acc
  refine ⟨[], ?_, fun _ => rfl⟩
  show scan (c :: m) _ _ _ _ = _
  rw [scan_bla m _ acc none h.1 h.2.1 h.2.2.1 h.2.2.2]
  simp [shutW]
theorem cut_mid (pre u r : List UInt8) : cut (pre ++ u ++ r) (pre.length, pre.length + u.length) = u := by
  unfold cut
  rw [List.append_assoc, List.drop_left, Nat.add_sub_cancel_left, List.take_left]
theorem Wd.alo {c : UInt8} (h : Alo c) : Wd [c] [[c]] := by
  intro pre m acc
  refine ⟨[(pre.length, pre.length + 1)], ?_, fun m' => ?_⟩
  · show scan (c :: m) _ _ _ _ = _
    rw [scan_alo m _ acc none h.1 h.2]
    simp [shutW]
  · have := cut_mid pre [c] m'
    simp only [List.map_cons, List.map_nil]
    rw [show pre.length + 1 = pre.length + [c].length from rfl, this]
theorem scan_run (m : List UInt8) : ∀ (u : List UInt8) (p q : Nat) (acc : List (Nat × Nat)), (∀ c ∈ u, togB (UInt8.toNat c) = true) → scan (u ++ m) p acc (some q) false = scan m (p + u.length) acc (some q) false := by
  intro u
  induction u with
  | nil => intro p q acc _; rfl
  | cons c u ih =>
    intro p q acc h
    rw [List.cons_append, scan_tog _ _ _ _ (h c (by simp))]
    show scan (u ++ m) (p + 1) acc (some q) false = _
    rw [ih (p + 1) q acc (fun x hx => h x (by simp [hx])), List.length_cons, show p + 1 + u.length = p + (u.length + 1) by omega]
theorem scan_word (m u : List UInt8) (p : Nat) (acc : List (Nat × Nat)) (hu : u ≠ []) (h : ∀ c ∈ u, togB (UInt8.toNat c) = true) : scan (u ++ m) p acc none false = scan m (p + u.length) acc (some p) false := by
  cases u with
  | nil => exact absurd rfl hu
  | cons c u =>
    rw [List.cons_append, scan_tog _ _ _ _ (h c (by simp))]
    show scan (u ++ m) (p + 1) acc (some p) false = _
    rw [scan_run m u (p + 1) p acc (fun x hx => h x (by simp [hx])), List.length_cons, show p + 1 + u.length = p + (u.length + 1) by omega]
/-- What ends a word, and the words that it is. -/
def Sep (c : UInt8) (e : List (List UInt8)) : Prop := (Bla c ∧ e = []) ∨ (Alo c ∧ e = [[c]])
theorem Sep.wd {c : UInt8} {e : List (List UInt8)} (h : Sep c e) : Wd [c] e := by
  rcases h with ⟨h, rfl⟩ | ⟨h, rfl⟩
  · exact Wd.bla h
  · exact Wd.alo h
theorem Wd.word {u : List UInt8} {c : UInt8} {e : List (List UInt8)} (hu : wordOk u) (h : Sep c e) : Wd (u ++ [c]) (u :: e) := by
  rcases hu with ⟨a, rfl, h1, h2⟩ | ⟨hu, ht⟩
  · exact (Wd.alo ⟨h1, h2⟩).app h.wd
  · intro pre m acc
    have e1 : u ++ [c] ++ m = u ++ (c :: m) := by simp
    have ec := fun m' => cut_mid pre u (c :: m')
    rcases h with ⟨h, rfl⟩ | ⟨h, rfl⟩
    · refine ⟨[(pre.length, pre.length + u.length)], ?_, fun m' => ?_⟩
      · rw [e1, scan_word _ _ _ _ hu ht, scan_bla m _ acc _ h.1 h.2.1 h.2.2.1 h.2.2.2]
        simp [shutW, Nat.add_assoc]
      · have := ec m'
        simp only [List.append_assoc] at this
        simp [this]
    · refine ⟨[(pre.length, pre.length + u.length), (pre.length + u.length, pre.length + u.length + 1)], ?_, fun m' => ?_⟩
      · rw [e1, scan_word _ _ _ _ hu ht, scan_alo m _ acc _ h.1 h.2]
        simp [shutW, Nat.add_assoc]
      · have h1 := ec m'
        have h2 := cut_mid (pre ++ u) [c] m'
        simp only [List.append_assoc, List.cons_append, List.nil_append, List.length_append, List.length_cons, List.length_nil, Nat.zero_add] at h1 h2
        simp [h1, h2]
/-- The words of a whole text. -/
theorem Wd.words {t : List UInt8} {us : List (List UInt8)} (h : Wd t us) {s : ByteArray} (hs : s.data.toList = t) : ∃ ws, words s = .inr ws ∧ ws.map (cut s.data.toList) = us := by
  obtain ⟨qs, e, c⟩ := h [] [] []
  refine ⟨qs, ?_, ?_⟩
  · unfold L2.words
    rw [hs]
    simp only [List.append_nil, List.nil_append, List.length_nil] at e
    rw [e]; rfl
  · have := c []
    simp only [List.append_nil, List.nil_append] at this
    rw [hs]; exact this
end Go.Proofs.YtahhbckccdigoaaGreatDoor.L2
namespace Go.Proofs.YtahhbckccdigoaaGreatDoor
open Go Go.RowKit
open G (Tok Er Ins Fun peek0 peek1 atOf)
theorem dig_chars (n : Int) : dig n ≠ [] ∧ ∀ c ∈ dig n, c = 45 ∨ L1.isDig c = true := by
  unfold dig Lib.itoa
  split
  · refine ⟨by simp, fun c hc => ?_⟩
    rcases List.mem_cons.1 hc with rfl | hc
    · exact .inl rfl
    · exact .inr (List.all_eq_true.1 (L1.dec_all _) c hc)
  · exact ⟨L1.dec_ne_nil _, fun c hc => .inr (List.all_eq_true.1 (L1.dec_all _) c hc)⟩
theorem isDig_tog {c : UInt8} (h : L1.isDig c = true) : L2.togB c.toNat = true := by
  have := (L1.isDig_iff c).1 h
  simp only [L2.togB, L2.digB, Bool.or_eq_true, Bool.and_eq_true, decide_eq_true_eq]
  omega
theorem dig_tog (n : Int) : ∀ c ∈ dig n, L2.togB (UInt8.toNat c) = true := fun c hc => by
  rcases (dig_chars n).2 c hc with rfl | h
  · decide
  · exact isDig_tog h
theorem dig_ne (n : Int) : dig n ≠ [] ∧ dig n ≠ [114] := by
  refine ⟨(dig_chars n).1, fun e => ?_⟩
  rcases (dig_chars n).2 114 (by rw [e]; simp) with h | h
  · exact absurd h (by decide)
  · exact absurd h (by decide)
/-- An operation, and a type that it may be of. -/
def goodF (op t : Int) : Bool := decide (1 ≤ op) && decide (op ≤ 29) && L5.may op t
def iwF (op t : Int) : List UInt8 := (L5.iword op t).data.toList
theorem may_in {op t : Int} (h : L5.may op t = true) : 0 ≤ t ∧ t ≤ 3 := by
  unfold L5.may at h
  split at h
  · simp only [decide_eq_true_eq] at h; omega
  · split at h
    · simp only [decide_eq_true_eq] at h; omega
    · split at h
      · simp only [decide_eq_true_eq] at h; omega
      · simp only [decide_eq_true_eq] at h; omega
theorem good_pair {op t : Int} (h : goodF op t = true) : ∃ k, k < 116 ∧ op = ((k / 4 + 1 : Nat) : Int) ∧ t = ((k % 4 : Nat) : Int) ∧ L5.may ((k / 4 + 1 : Nat) : Int) ((k % 4 : Nat) : Int) = true := by
  simp only [goodF, Bool.and_eq_true, decide_eq_true_eq] at h
  obtain ⟨⟨h1, h2⟩, h3⟩ := h
  have h4 := may_in h3
  have e1 : op = (((((op - 1) * 4 + t).toNat) / 4 + 1 : Nat) : Int) := by omega
  have e2 : t = (((((op - 1) * 4 + t).toNat) % 4 : Nat) : Int) := by omega
  exact ⟨((op - 1) * 4 + t).toNat, by omega, e1, e2, by rw [← e1, ← e2]; exact h3⟩
theorem iw_all : ∀ k, k < 116 → L5.may ((k / 4 + 1 : Nat) : Int) ((k % 4 : Nat) : Int) = true →
    L5.find (L5.iword ((k / 4 + 1 : Nat) : Int) ((k % 4 : Nat) : Int)) = (((k / 4 + 1 : Nat) : Int), ((k % 4 : Nat) : Int)) ∧
    (iwF ((k / 4 + 1 : Nat) : Int) ((k % 4 : Nat) : Int)).head? ≠ some 37 ∧ iwF ((k / 4 + 1 : Nat) : Int) ((k % 4 : Nat) : Int) ≠ [] ∧
    ((iwF ((k / 4 + 1 : Nat) : Int) ((k % 4 : Nat) : Int)).head? = some 98 → iwF ((k / 4 + 1 : Nat) : Int) ((k % 4 : Nat) : Int) = [98, 114]) ∧
    (iwF ((k / 4 + 1 : Nat) : Int) ((k % 4 : Nat) : Int)).all (fun c => L2.togB c.toNat) = true := by decide +kernel
theorem iw_tog {op t : Int} (h : goodF op t = true) : iwF op t ≠ [] ∧ ∀ c ∈ iwF op t, L2.togB (UInt8.toNat c) = true := by
  obtain ⟨k, hk, rfl, rfl, hm⟩ := good_pair h
  obtain ⟨_, _, h3, _, h5⟩ := iw_all k hk hm
  exact ⟨h3, List.all_eq_true.1 h5⟩
theorem nameFrom_tog : ∀ (l : List UInt8) (p : Nat), L2.nameFrom l p = true → ∀ c ∈ l, L2.togB (UInt8.toNat c) = true := by
  intro l
  induction l with
  | nil => intro p _ c hc; cases hc
  | cons a l ih =>
    intro p h c hc
    rw [L2.nameFrom, Bool.and_eq_true] at h
    rcases List.mem_cons.1 hc with rfl | hc
    · have h1 := h.1
      simp only [Bool.or_eq_true, Bool.and_eq_true, decide_eq_true_eq] at h1
      simp only [L2.togB, Bool.or_eq_true, decide_eq_true_eq]
      rcases h1 with h1 | ⟨_, h1 | h1⟩
      · exact .inl (.inl (.inr h1))
      · exact .inr h1
      · exact .inl (.inl (.inl (.inr h1)))
    · exact ih (p + 1) h.2 c hc
theorem nam_parts {s : List UInt8} (h : namF s = true) : s ≠ [] ∧ s.length ≤ 24 ∧ (∀ c ∈ s, L2.togB (UInt8.toNat c) = true) ∧ s.head? ≠ some 64 := by
  simp only [namF, L2.nameB, Bool.and_eq_true, decide_eq_true_eq, Bool.not_eq_true'] at h
  obtain ⟨⟨h1, h2⟩, h3⟩ := h
  refine ⟨fun e => ?_, h1, nameFrom_tog s 0 h2, ?_⟩
  · subst e; cases h3
  · cases s with
    | nil => simp
    | cons c l =>
      rw [L2.nameFrom, Bool.and_eq_true] at h2
      intro e
      have : c = 64 := by simpa using e
      subst this
      exact absurd h2.1 (by decide)
theorem shp_parts {s : List UInt8} (h : shpF s = 0) : s ≠ [] ∧ s.length ≤ 24 ∧ ∀ c ∈ s, L2.togB (UInt8.toNat c) = true := by
  by_cases h46 : s = [46]
  · subst h46
    exact ⟨by simp, by simp, fun c hc => by simp at hc; subst hc; decide⟩
  · unfold shpF L3.readS at h
    rw [bs_data, if_neg h46, bs_size] at h
    by_cases hz : s.length = 0 ∨ 16 < s.length
    · rw [if_pos hz] at h; cases h
    · rw [if_neg hz] at h
      unfold L3.readL at h
      cases ha : L3.allL s with
      | false => rw [ha] at h; cases h
      | true =>
        refine ⟨fun e => ?_, by omega, fun c hc => ?_⟩
        · subst e; simp at hz
        · have := List.all_eq_true.1 ha c hc
          simp only [L3.isL, Bool.or_eq_true, beq_iff_eq] at this
          rcases this with rfl | rfl <;> decide
end Go.Proofs.YtahhbckccdigoaaGreatDoor
