/- Layer 8, the program: whether blocks end as they should. Layer 8, the reference: lists of lists that are read, compared with themselves. Layer 8, memory: rows that were made and are written cell by cell; lists of numbers that grow side by side. Layer 8, the reference: which blocks go to each block. Layer 8, memory: what lies between two borders stays; rows of rows, read. The blocks that go to each block, as lists that grow side by side. -/
import Derived.Test.YtfmeadbiokcboaaDoorMsAH
import Derived.Test.YtfmeadbiokcboaaDoorMsAI
import Derived.Maps.AppendAt
namespace Go.Proofs.YtfmeadbiokcboaaDoor
open Go Go.RowKit
open G (Tok Er Ins Fun)
def outB (n : Nat) (m : Int) : Bool := decide (m < 0 ∨ (n : Int) ≤ m)
theorem out_there (n : Nat) (m : Int) : (!thereB m n) = outB n m := by
  rw [Bool.eq_iff_iff]; simp [thereB, outB]
theorem look1_any (m : Int) (n g : Nat) (w : World) (h : w.cell? ⟨g, 0, none⟩ = some (.int .i64 n)) : Calls Tryd.prog 41 #[.int .i64 m, .pointer (some ⟨g, 0, none⟩)] w fun e w' => e = .returned (.bool (outB n m)) ∧ w' = w := by
  have HE := hide (out_there n m)
  go_enter Tryd.func41, Tryd.ntmps41
  go_wp2_with fail
  refine (there_any m n _).mono ?_; rintro e w1 ⟨rfl, rfl⟩
  generalize thereB m n = t at *
  go_wp2_with fail
  go_ret
  exact ⟨L5.ret_bool HE.out, rfl⟩
def firstB (n : Nat) : List Int → Int → Int
  | [], _ => -1
  | t :: r, k => if outB n t then k else firstB n r (k + 1)
theorem firstB_drop (n : Nat) (xs : List Int) (k : Nat) (t : Int) (h : xs[k]? = some t) : firstB n (xs.drop k) k = if outB n t then (k : Int) else firstB n (xs.drop (k + 1)) ((k + 1 : Nat) : Int) := by
  rw [dropE_at h]; rfl
theorem firstB_any (n : Nat) (l : List Int) : ∀ k : Int, 0 ≤ k → (badT n l = true → 0 ≤ firstB n l k) ∧ (badT n l = false → firstB n l k = -1) := by
  induction l with
  | nil => intro k _; simp [firstB, badT]
  | cons t r ih =>
    intro k hk
    have e : badT n (t :: r) = (outB n t || badT n r) := rfl
    rw [firstB, e]
    cases hb : outB n t with
    | true => simp; exact hk
    | false => simpa using ih (k + 1) (by omega)
set_option maxRecDepth 20000 in
theorem indexF_any (n : Nat) (xs : List Int) (ao : Option Addr) (c g : Nat) (w : World) (hs : Sl w ao xs) (hg : g < w.heap.size) (h : w.cell? ⟨g, 0, none⟩ = some (.int .i64 n)) (hm : xs.length ≤ maxLen) :
    Calls Tryd.prog 47 #[.slice ao xs.length c, .func (Fn.func 41) #[] #[.pointer (some ⟨g, 0, none⟩)]] w fun e w' => e = .returned (.int .i64 (firstB n xs 0)) ∧ Below w.heap.size w w' := by
  have H := hide h
  have X := hide hs
  unfold maxLen at hm
  clear h hs
  go_enter Tryd.func47, Tryd.ntmps47
  go_wp2_with fail
  go_loopw [8] (fun i wr => ∃ k : Nat, i = .int .i64 k ∧ k ≤ xs.length ∧ Below w.heap.size w wr ∧ Hid (firstB n xs 0 = firstB n (xs.drop k) k)) (fun i _ => xs.length - (intOf i).toNat)
  case atStart => exact ⟨0, rfl, Nat.zero_le _, Below.refl _ _, rfl⟩
  case round =>
    obtain ⟨k, rfl, hk, HB, HF⟩ := hrel
    have HB := hide HB
    by_cases hlt : k < xs.length
    · obtain ⟨t, ht⟩ : ∃ t, xs[k]? = some t := ⟨xs[k], List.getElem?_eq_getElem hlt⟩
      have HS := hide (HF.out.trans (firstB_drop n xs k t ht))
      rcases X.out with he | ⟨b, o, rfl, hb, hc⟩
      · subst he; simp at hlt
      have hcell : wr.cell? ⟨b, o + k, none⟩ = some (.int .i64 t) := (HB.out.cell (p := ⟨b, o + k, none⟩) hb).trans (hc k t ht)
      have hlt' : (k : Int) < xs.length := by omega
      have hcg := hide ((HB.out.cell (p := ⟨g, 0, none⟩) hg).trans H.out)
      clear hc ht
      go_wp2_with fail
      refine (look1_any t n g _ hcg.out).mono ?_; rintro e w1 ⟨rfl, rfl⟩
      cases hbt : outB n t with
      | true =>
        have HE := hide (HS.out.trans (if_pos hbt))
        go_wp2_with fail
        go_ret
        exact ⟨by rw [HE.out]; rfl, HB.out⟩
      | false =>
        have HE := hide (HS.out.trans (if_neg (by simp [hbt])))
        go_wp2_with fail
        go_roundw
        case rel => exact ⟨k + 1, by go_num, by omega, HB.out, HE.out⟩
        case measure => simp [intOf]; omega
    · have hk2 : k = xs.length := by omega
      subst hk2
      have HE := hide (HF.out.trans (by rw [List.drop_length]; rfl : _ = (-1 : Int)))
      go_wp2_with fail
      go_ret
      exact ⟨by rw [HE.out]; rfl, HB.out⟩
theorem contains_any (n : Nat) (xs : List Int) (ao : Option Addr) (c g : Nat) (w : World) (hs : Sl w ao xs) (hg : g < w.heap.size) (h : w.cell? ⟨g, 0, none⟩ = some (.int .i64 n)) (hm : xs.length ≤ maxLen) :
    Calls Tryd.prog 40 #[.slice ao xs.length c, .func (Fn.func 41) #[] #[.pointer (some ⟨g, 0, none⟩)]] w fun e w' => e = .returned (.bool (badT n xs)) ∧ Below w.heap.size w w' := by
  obtain ⟨f1, f2⟩ := firstB_any n xs 0 (Int.le_refl 0)
  have H := hide h
  have X := hide hs
  have F1 := hide f1
  have F2 := hide f2
  clear h hs f1 f2
  go_enter Tryd.func40, Tryd.ntmps40
  go_wp2_with fail
  refine (indexF_any n xs ao c g _ X.out hg H.out hm).mono ?_; rintro e w1 ⟨rfl, b1⟩
  cases hb : badT n xs with
  | true =>
    have h1 := F1.out hb
    replace hb := hide hb
    generalize firstB n xs 0 = r at *
    clear F1 F2
    go_wp2_with fail
    go_ret
    exact ⟨L5.ret_bool hb.out.symm, b1⟩
  | false =>
    have h1 := F2.out hb
    rw [h1]
    replace hb := hide hb
    clear F1 F2 h1
    go_wp2_with fail
    go_ret
    exact ⟨L5.ret_bool hb.out.symm, b1⟩
set_option maxHeartbeats 4000000 in
set_option maxRecDepth 20000 in
theorem look_any (b : List Ins) (N : Nat) (aok : Option Addr) (capk : Nat) (w : World) (hb : BlkR w b (.slice aok b.length capk)) (ht : Tab w) :
    Calls Tryd.prog 28 #[.slice aok b.length capk, .int .i64 N] w fun e w' => e = .returned (.int .i64 (blkE N b)) ∧ Below w.heap.size w w' := by
  have hmf : ∀ (fn : Fn) (first cap : Array Value) (w : World), (Instr.makeFunc fn first cap).run Tryd.prog w = .ok (.func fn first cap) w := fun _ _ _ _ => rfl
  have b0 := below_box w (.cells #[.int .i64 N] 3)
  have H0 := hide (heap_alloc_new w (.cells #[.int .i64 N] 3))
  have hz0 : w.heap.size < (w.alloc (.cells #[.int .i64 N] 3)).heap.size := by simp
  have HB := hide (hb.below b0)
  have HT := hide (ht.below b0)
  have B0 := hide b0
  clear hb ht b0
  go_enter Tryd.func28, Tryd.ntmps28
  go_upto_region 1 with fail
  show Code.wp _ _ _ _ (w.alloc (.cells #[.int .i64 N] 3))
  generalize w.alloc (.cells #[.int .i64 N] 3) = W at *
  obtain ⟨_, _, e', m1, m2, kk⟩ := HB.out
  injection e' with e1 e2 e4
  subst e1 e4
  have HKK := hide kk
  unfold maxLen at m2
  clear kk e2
  go_wp2_with fail
  go_loopw [10] (fun i wq => ∃ I : Nat, I ≤ b.length ∧ i = .int .i64 I ∧ Hid (blkGo N b.length 0 b = blkGo N b.length I (b.drop I)) ∧ Hid (Below W.heap.size W wq)) (fun i _ => b.length - (intOf i).toNat)
  case atStart => exact ⟨0, Nat.zero_le _, rfl, hide rfl, hide (Below.refl _ _)⟩
  case round =>
    obtain ⟨I, hI, rfl, HI, HW⟩ := hrel
    by_cases hit : I < b.length
    · have hiI : (I : Int) < b.length := by omega
      obtain ⟨x, hx⟩ : ∃ x, b[I]? = some x := ⟨b[I], List.getElem?_eq_getElem hit⟩
      rcases HKK.out with e0 | ⟨gi, oi, rfl, kk⟩
      · subst e0; simp at hit
      have HI2 := hide (HI.out.trans (by rw [dropE_at hx]))
      obtain ⟨ai, ti, ca, ct, hv, r0, r1, r2, r3, r4, r5, r6, r7⟩ := ((kk I _ hx).below HW.out).val
      obtain ⟨op, id, nn, ty, ar, tt, na, pp⟩ := x
      dsimp only at hv r0 r1 r2 r3 r4 r5 r6 r7
      have HSt : Hid (Sl wr ti tt ∧ tt.length ≤ maxLen) := hide (by
        obtain ⟨a1, t1, c1, c2, e, s1, s2, _, _, s5, s6⟩ := hv
        injection e with e
        have e2 := congrArg (fun a => a[5]?) e
        simp at e2
        rw [e2.1]; exact ⟨s2, Nat.le_trans s5 s6⟩)
      have B7 := hide (below_box wr (.cells #[.int .i64 op, .int .i64 id, .int .i64 nn, .int .i64 ty, .slice ai ar.length ca, .slice ti tt.length ct, .string (bs na), .int .i64 pp] 53))
      have H7 := hide (heap_alloc_new wr (.cells #[.int .i64 op, .int .i64 id, .int .i64 nn, .int .i64 ty, .slice ai ar.length ca, .slice ti tt.length ct, .string (bs na), .int .i64 pp] 53))
      have hbn : ¬ b.length = 0 := by omega
      have HBE : Hid (blkE N b = blkGo N b.length 0 b) := hide (if_neg hbn)
      have HW8 := hide (below_step HW.out B7.out)
      have HEn := hide (ends_any op _ (HT.out.below HW8.out))
      clear kk hx hv HI
      obtain ⟨s0, s1, s2, s3, s4, s5, s6, s7⟩ := box8 H7.out
      have SS := hide (And.intro s0 s5)
      have hwl : wr.heap.size < (wr.alloc (.cells #[.int .i64 op, .int .i64 id, .int .i64 nn, .int .i64 ty, .slice ai ar.length ca, .slice ti tt.length ct, .string (bs na), .int .i64 pp] 53)).heap.size := by simp
      have HSt8 : Hid (Sl (wr.alloc (.cells #[.int .i64 op, .int .i64 id, .int .i64 nn, .int .i64 ty, .slice ai ar.length ca, .slice ti tt.length ct, .string (bs na), .int .i64 pp] 53)) ti tt) := hide (HSt.out.1.below B7.out)
      have htl : tt.length ≤ maxLen := HSt.out.2
      have hsub : IntKind.i64.wrap ((b.length : Int) - 1) = (b.length : Int) - 1 := IntWalk.i64_in _ ⟨by omega, by omega⟩
      go_wp2_with fail
      refine HEn.out.mono ?_; rintro e w9 ⟨rfl, b9⟩
      have HW9 := hide (below_step HW8.out b9)
      have t0 := (b9.cell (p := ⟨wr.heap.size, 0, none⟩) hwl).trans SS.out.1
      have t5 := (b9.cell (p := ⟨wr.heap.size, 5, none⟩) hwl).trans SS.out.2
      have HSt9 := hide (HSt8.out.below b9)
      have HN9 := hide (cell9 ((HW9.out.block _ hz0).trans H0.out))
      have hz9 : w.heap.size < w9.heap.size := Nat.lt_of_lt_of_le hz0 HW9.out.size
      clear s0 s1 s2 s3 s4 s5 s6 s7 r0 r1 r2 r3 r4 r5 r6 r7 B7 H7 HW HSt HSt8 SS HW8 HEn b9
      generalize wr.heap.size = q at *
      have HC := hide (contains_any N tt ti ct w.heap.size w9 HSt9.out hz9 HN9.out htl)
      by_cases hl : I + 1 = b.length
      · have hlI : ((I : Int) == (b.length : Int) - 1) = true := by simpa using (by omega : (I : Int) = b.length - 1)
        cases he : endsB op with
        | true =>
          have HEq : Hid (endsB op = decide (I + 1 = b.length)) := hide (by simp [he, hl])
          have HBad : Hid (badI N (op, id, nn, ty, ar, tt, na, pp) = true → (7 : Int) = blkE N b) := hide (fun h => ((HBE.out.trans (HI2.out.trans (blkGo_bad HEq.out h)))).symm)
          have HOk : Hid (badI N (op, id, nn, ty, ar, tt, na, pp) = false → blkGo N b.length 0 b = blkGo N b.length (I + 1) (b.drop (I + 1))) := hide (fun h => HI2.out.trans (blkGo_next HEq.out h))
          replace he := hide he
          by_cases hop : op = 20
          · have hop' : (op != 20) = false := by simpa using hop
            have HE := hide (HOk.out (by simp [badI, hop]))
            clear HBad HOk HI2 HBE HC HEq
            go_wp2_with fail
            go_roundw
            case rel => exact ⟨I + 1, by omega, by go_num, HE, HW9⟩
            case measure => simp [intOf]; omega
          · have hop' : (op != 20) = true := by simpa using hop
            go_wp2_with fail
            refine HC.out.mono ?_; rintro e wA ⟨rfl, bA⟩
            have HWA := hide (below_step HW9.out bA)
            cases hbt : badT N tt with
            | true =>
              have HE := hide (HBad.out (by simp [badI, hop, hbt]))
              clear HBad HOk HI2 HBE HC HEq
              go_wp2_with fail
              go_ret
              exact ⟨L5.ret_int HE.out, below_step B0.out HWA.out⟩
            | false =>
              have HE := hide (HOk.out (by simp [badI, hbt]))
              clear HBad HOk HI2 HBE HC HEq
              go_wp2_with fail
              go_roundw
              case rel => exact ⟨I + 1, by omega, by go_num, HE, HWA⟩
              case measure => simp [intOf]; omega
        | false =>
          have HE : Hid ((15 : Int) = blkE N b) := hide ((HBE.out.trans (HI2.out.trans (blkGo_end (by simp [he, hl])))).symm)
          replace he := hide he
          clear HI2 HBE HC
          go_wp2_with fail
          go_ret
          exact ⟨L5.ret_int HE.out, below_step B0.out HW9.out⟩
      · have hlI : ((I : Int) == (b.length : Int) - 1) = false := beq_eq_false_iff_ne.2 (by omega)
        cases he : endsB op with
        | true =>
          have HE : Hid ((15 : Int) = blkE N b) := hide ((HBE.out.trans (HI2.out.trans (blkGo_end (by simp [he, hl])))).symm)
          replace he := hide he
          clear HI2 HBE HC
          go_wp2_with fail
          go_ret
          exact ⟨L5.ret_int HE.out, below_step B0.out HW9.out⟩
        | false =>
          have HEq : Hid (endsB op = decide (I + 1 = b.length)) := hide (by simp [he, hl])
          have HBad : Hid (badI N (op, id, nn, ty, ar, tt, na, pp) = true → (7 : Int) = blkE N b) := hide (fun h => ((HBE.out.trans (HI2.out.trans (blkGo_bad HEq.out h)))).symm)
          have HOk : Hid (badI N (op, id, nn, ty, ar, tt, na, pp) = false → blkGo N b.length 0 b = blkGo N b.length (I + 1) (b.drop (I + 1))) := hide (fun h => HI2.out.trans (blkGo_next HEq.out h))
          replace he := hide he
          by_cases hop : op = 20
          · have hop' : (op != 20) = false := by simpa using hop
            have HE := hide (HOk.out (by simp [badI, hop]))
            clear HBad HOk HI2 HBE HC HEq
            go_wp2_with fail
            go_roundw
            case rel => exact ⟨I + 1, by omega, by go_num, HE, HW9⟩
            case measure => simp [intOf]; omega
          · have hop' : (op != 20) = true := by simpa using hop
            go_wp2_with fail
            refine HC.out.mono ?_; rintro e wA ⟨rfl, bA⟩
            have HWA := hide (below_step HW9.out bA)
            cases hbt : badT N tt with
            | true =>
              have HE := hide (HBad.out (by simp [badI, hop, hbt]))
              clear HBad HOk HI2 HBE HC HEq
              go_wp2_with fail
              go_ret
              exact ⟨L5.ret_int HE.out, below_step B0.out HWA.out⟩
            | false =>
              have HE := hide (HOk.out (by simp [badI, hbt]))
              clear HBad HOk HI2 HBE HC HEq
              go_wp2_with fail
              go_roundw
              case rel => exact ⟨I + 1, by omega, by go_num, HE, HWA⟩
              case measure => simp [intOf]; omega
    · obtain rfl : I = b.length := by omega
      have HE := HI.out
      rw [List.drop_length] at HE
      by_cases hbn : b.length = 0
      · have hbn' : ((b.length : Int) == 0) = true := by simpa using hbn
        have HEE : Hid ((15 : Int) = blkE N b) := hide (if_pos hbn).symm
        clear HE HI
        go_wp2_with fail
        go_ret
        exact ⟨L5.ret_int HEE.out, below_step B0.out HW.out⟩
      · have hbn' : ((b.length : Int) == 0) = false := by simpa using hbn
        have HEE : Hid ((0 : Int) = blkE N b) := hide ((if_neg hbn).trans HE).symm
        clear HE HI
        go_wp2_with fail
        go_ret
        exact ⟨L5.ret_int HEE.out, below_step B0.out HW.out⟩
set_option maxHeartbeats 4000000 in
set_option maxRecDepth 20000 in
theorem shaped_try (nm : List UInt8) (ps : List Int) (rt pl : Int) (bl : List (List Ins)) (ao bo : Option Addr) (c cb : Nat) (w : World)
    (hv : FunV w (nm, ps, rt, bl, pl) (.agg #[.string (bs nm), .slice ao ps.length c, .int .i64 rt, .slice bo bl.length cb, .int .i64 pl])) (ht : Tab w) :
    Calls Tryd.prog 9 #[.agg #[.string (bs nm), .slice ao ps.length c, .int .i64 rt, .slice bo bl.length cb, .int .i64 pl]] w fun e w' => e = .returned (.agg #[.int .i64 (shapedF (nm, ps, rt, bl, pl)).1, .int .i64 (shapedF (nm, ps, rt, bl, pl)).2]) ∧ Below w.heap.size w w' := by
  obtain ⟨b0, h0, h1, hz0⟩ := two_boxes w #[.string (bs nm), .slice ao ps.length c, .int .i64 rt, .slice bo bl.length cb, .int .i64 pl]
  have H0 := hide h0
  have H1 := hide h1
  have HV := hide (hv.below b0)
  have HT := hide (ht.below b0)
  have B0 := hide b0
  have hbc : bl.length ≤ cb ∧ cb ≤ maxLen := by
    obtain ⟨vp, vb, e, _, ⟨ao', c', e', h1, h2, _⟩⟩ := hv
    injection e with e
    have e3 := congrArg (fun a => a[3]?) e
    simp at e3
    subst e3
    injection e' with e1 e2 e3
    subst e3
    exact ⟨h1, h2⟩
  have hz2 : w.heap.size < ((w.alloc (.cells #[.string (bs nm), .slice ao ps.length c, .int .i64 rt, .slice bo bl.length cb, .int .i64 pl] 25)).alloc (.cells #[.int .i64 0, .int .i64 0] 33)).heap.size := by omega
  unfold maxLen at hbc
  clear b0 h0 h1 hv ht
  go_enter Tryd.func9, Tryd.ntmps9
  go_upto_region 1 with fail
  show Code.wp _ _ _ _ ((w.alloc (.cells #[.string (bs nm), .slice ao ps.length c, .int .i64 rt, .slice bo bl.length cb, .int .i64 pl] 25)).alloc (.cells #[.int .i64 0, .int .i64 0] 33))
  generalize (w.alloc (.cells #[.string (bs nm), .slice ao ps.length c, .int .i64 rt, .slice bo bl.length cb, .int .i64 pl] 25)).alloc (.cells #[.int .i64 0, .int .i64 0] 33) = W at *
  obtain ⟨x0, x1, x2, x3, x4⟩ := box5 H0.out
  by_cases hn0 : bl.length = 0
  · have HE : Hid (shapedF (nm, ps, rt, bl, pl) = (15, 0)) := hide (if_pos hn0)
    obtain ⟨d0, d1, z0, z1⟩ := err_box H1.out
    go_wp2_with fail
    exact bodyPost_ret (v := .agg #[.int .i64 15, .int .i64 0]) (by simp [results, Tryd.results9, go_sem, d0, d1]) rfl ⟨by rw [HE.out], err_below B0.out (Below.refl _ _)⟩
  have hn1 : ((bl.length : Int) == 0) = false := by simpa using hn0
  have HB : Hid (BlksR W bl (.slice bo bl.length cb)) := hide (by
    obtain ⟨vp, vb, e, _, hB⟩ := HV.out
    injection e with e
    have e3 := congrArg (fun a => a[3]?) e
    simp at e3
    rw [e3]; exact hB)
  have HS : Hid (shapedF (nm, ps, rt, bl, pl) = shapedGo bl.length 0 bl) := hide (if_neg hn0)
  go_wp2_with fail
  clear x0 x1 x2 x3 x4
  go_loopw [14] (fun i wr => ∃ K : Nat, K ≤ bl.length ∧ i = .int .i64 K ∧ Hid (shapedF (nm, ps, rt, bl, pl) = shapedGo bl.length K (bl.drop K)) ∧ Hid (Below W.heap.size W wr)) (fun i _ => bl.length - (intOf i).toNat)
  case atStart => exact ⟨0, Nat.zero_le _, rfl, HS, hide (Below.refl _ _)⟩
  case round =>
    obtain ⟨K, hK, rfl, HR, HW⟩ := hrel
    obtain ⟨x0, x1, x2, x3, x4⟩ := box5 ((HW.out.block _ hz2).trans H0.out)
    by_cases hkt : K < bl.length
    · obtain ⟨b, hbK⟩ : ∃ b, bl[K]? = some b := ⟨bl[K], List.getElem?_eq_getElem hkt⟩
      have hkI : (K : Int) < bl.length := by omega
      obtain ⟨_, _, e', l1, l2, l3⟩ := HB.out
      injection e' with e1 e2 e4
      subst e1 e4
      rcases l3 with l3 | ⟨gc, oc, rfl, gk, h2⟩
      · subst l3; simp at hkt
      obtain ⟨vk, kd, kk⟩ := h2 K b hbK
      have kk2 := kk.below HW.out
      obtain ⟨aok, capk, rfl, m1, m2, _⟩ := kk
      have c1 := (HW.out.cell (p := ⟨gc, oc + K, none⟩) gk).trans kd
      have HR2 := hide (HR.out.trans (by rw [dropE_at hbK]))
      have HL := hide (look_any b bl.length aok capk wr kk2 (HT.out.below HW.out))
      unfold maxLen at m2
      clear kd kk2 h2 hbK e2 HR
      go_wp2_with fail
      refine HL.out.mono ?_; rintro e w9 ⟨rfl, b9⟩
      have HW9 := hide (below_step HW.out b9)
      clear x0 x1 x2 x3 x4 c1 b9 HL
      by_cases hz : blkE bl.length b = 0
      · have HEE : Hid (shapedF (nm, ps, rt, bl, pl) = shapedGo bl.length (K + 1) (bl.drop (K + 1))) := hide (HR2.out.trans (shapedGo_next hz))
        rw [hz]
        clear hz HR2
        go_wp2_with fail
        go_roundw
        case rel => exact ⟨K + 1, by omega, by go_num, HEE, HW9⟩
        case measure => simp [intOf]; omega
      · have hz' : (blkE bl.length b != 0) = true := by simpa using hz
        have HEE : Hid (shapedF (nm, ps, rt, bl, pl) = (blkE bl.length b, (K : Int))) := hide (HR2.out.trans (shapedGo_hit rfl hz))
        clear hz HR2
        generalize blkE bl.length b = z at *
        obtain ⟨d0, d1, z0, z1⟩ := err_box ((HW9.out.block _ hz0).trans H1.out)
        go_wp2_with fail
        exact bodyPost_ret (v := .agg #[.int .i64 z, .int .i64 (K : Int)]) (by simp [results, Tryd.results9, go_sem, d0, d1]) rfl ⟨by rw [HEE.out], err_below B0.out HW9.out⟩
    · obtain rfl : K = bl.length := by omega
      have HE := HR.out
      rw [List.drop_length] at HE
      replace HE : Hid (shapedF (nm, ps, rt, bl, pl) = (0, 0)) := hide HE
      obtain ⟨d0, d1, z0, z1⟩ := err_box ((HW.out.block _ hz0).trans H1.out)
      go_wp2_with fail
      exact bodyPost_ret (v := .agg #[.int .i64 0, .int .i64 0]) (by simp [results, Tryd.results9, go_sem, d0, d1]) rfl ⟨by rw [HE.out], err_below B0.out HW.out⟩
theorem shaped_any (f : Fun) (v : Value) (w : World) (hv : FunV w f v) (ht : Tab w) :
    Calls Tryd.prog 9 #[v] w fun e w' => e = .returned (.agg #[.int .i64 (shapedF f).1, .int .i64 (shapedF f).2]) ∧ Below w.heap.size w w' := by
  obtain ⟨nm, ps, rt, bl, pl⟩ := f
  have hv2 := hv
  obtain ⟨vp, vb, rfl, ⟨ao, c, rfl, h1, _⟩, h2⟩ := hv
  obtain ⟨bo, cb, rfl, _⟩ := h2
  exact shaped_try nm ps rt pl bl ao bo c cb w hv2 ht
end Go.Proofs.YtfmeadbiokcboaaDoor
namespace Go.Proofs.YtfmeadbiokcboaaDoor
open Go Go.RowKit
open G (Tok Er Ins Fun)
/-- Lists of numbers that lie one by one from some cell on. -/
def RowsR (w : World) (ao : Option Addr) (ll : List (List Int)) : Prop := ll = [] ∨ ∃ b o, ao = some ⟨b, o, none⟩ ∧ b < w.heap.size ∧ ∀ (i : Nat) (l : List Int), ll[i]? = some l → ∃ u, w.cell? ⟨b, o + i, none⟩ = some u ∧ IntsV w l u
def RowsV (w : World) (ll : List (List Int)) (v : Value) : Prop := ∃ ao c, v = .slice ao ll.length c ∧ RowsR w ao ll ∧ ll.length ≤ c ∧ c ≤ maxLen
theorem RowsR.below {w w' : World} {ao : Option Addr} {ll : List (List Int)} (h : RowsR w ao ll) (hb : Below w.heap.size w w') : RowsR w' ao ll := by
  rcases h with h | ⟨b, o, e, hl, hc⟩
  · exact .inl h
  · refine .inr ⟨b, o, e, Nat.lt_of_lt_of_le hl hb.size, fun i l hi => ?_⟩
    obtain ⟨u, h1, h2⟩ := hc i l hi
    exact ⟨u, (hb.cell (p := ⟨b, o + i, none⟩) hl).trans h1, h2.below hb⟩
theorem RowsV.below {w w' : World} {ll : List (List Int)} {v : Value} (h : RowsV w ll v) (hb : Below w.heap.size w w') : RowsV w' ll v := by
  obtain ⟨ao, c, e, h1, h2⟩ := h
  exact ⟨ao, c, e, h1.below hb, h2⟩
theorem RowsO.read {B : Nat} {w : World} {ll : List (List Int)} {v : Value} (h : RowsO B w ll v) : RowsV w ll v := by
  obtain ⟨us, h1, h2, h3⟩ := h
  rcases own_view h1 with ⟨rfl, hn⟩ | ⟨g, cap, rfl, k1, k2, k3, k4, k5, k6⟩
  · have e : ll = [] := List.length_eq_zero_iff.1 hn
    subst e
    exact ⟨none, 0, rfl, .inl rfl, Nat.le_refl _, Nat.zero_le _⟩
  · refine ⟨some ⟨g, 0, none⟩, cap, rfl, .inr ⟨g, 0, rfl, k4, fun i l hi => ?_⟩, k1, k2⟩
    obtain ⟨u, m1, m2⟩ := h3 i l hi
    exact ⟨u, by rw [Nat.zero_add]; exact k5 i u m1, ints_of m2⟩
end Go.Proofs.YtfmeadbiokcboaaDoor
namespace Go.Proofs.YtfmeadbiokcboaaDoor
open Go Go.RowKit
open G (Tok Er Ins Fun)
/-- A row of one's own that was made whole. -/
def RowAt (w : World) (B e g n : Nat) (xs : List Value) : Prop := w.ownsRow B e 1 (.slice (some ⟨g, 0, none⟩) n n) n xs
theorem RowAt.len {w : World} {B e g n : Nat} {xs : List Value} (h : RowAt w B e g n xs) : xs.length = n := by have := h.1; omega
theorem RowAt.lt {w : World} {B e g n : Nat} {xs : List Value} (h : RowAt w B e g n xs) : B ≤ g ∧ g < w.heap.size := World.ownsRow.lt h g rfl
theorem RowAt.cell {w : World} {B e g n : Nat} {xs : List Value} (h : RowAt w B e g n xs) {j : Nat} {u : Value} (hj : xs[j]? = some u) : w.cell? ⟨g, j, none⟩ = some u := by
  have h1 := (List.getElem?_eq_some_iff.1 hj).1
  have h2 := h.len
  rw [World.ownsRow.cellAt h j (by omega), hj]
theorem RowAt.frozen {w : World} {B e g n : Nat} {xs : List Value} (h : RowAt w B e g n xs) (j : Nat) : w.frozen? ⟨g, j, none⟩ = false := World.ownsRow.frozenAt h j
theorem RowAt.set {w : World} {B e g n : Nat} {xs : List Value} (h : RowAt w B e g n xs) (j : Nat) (u : Value) : RowAt (w.setCell ⟨g, j, none⟩ u) B e g n (xs.set j u) := (World.ownsRow.stored h j u).1
theorem RowAt.below {w w' : World} {B e g n : Nat} {xs : List Value} (h : RowAt w B e g n xs) (b : Below w.heap.size w w') : RowAt w' B e g n xs := own_below b _ _ _ _ _ _ h
theorem RowAt.base {w : World} {B B' e g n : Nat} {xs : List Value} (h : RowAt w B e g n xs) (hB : B' ≤ B) : RowAt w B' e g n xs := own_base h hB
theorem RowAt.alloc {w : World} {B e g n : Nat} {xs : List Value} (h : RowAt w B e g n xs) (o : Obj) : RowAt (w.alloc o) B e g n xs := World.ownsRow.alloc h o
theorem RowAt.kept {w w' : World} {B e g n : Nat} {xs : List Value} {row : Option Nat} (h : RowAt w B e g n xs) (hg : w.grownBy w' row) (hne : some g ≠ row) : RowAt w' B e g n xs := World.ownsRow.kept h hg (.inr hne)
theorem RowAt.other {w : World} {B e g n : Nat} {xs : List Value} (h : RowAt w B e g n xs) {p : Addr} (hp : g ≠ p.block) (u : Value) : RowAt (w.setCell p u) B e g n xs := own_setCell h (by simpa [Value.ownBlock] using hp) u
theorem ints_set (l : List Int) (j : Nat) (x : Int) : (ints l).set j (.int .i64 x) = ints (l.set j x) := by simp [ints, List.map_set]
def bools (l : List Bool) : List Value := l.map Value.bool
theorem bools_set (l : List Bool) (j : Nat) (x : Bool) : (bools l).set j (.bool x) = bools (l.set j x) := by simp [bools, List.map_set]
theorem bools_at {l : List Bool} {j : Nat} {x : Bool} (h : l[j]? = some x) : (bools l)[j]? = some (.bool x) := by simp [bools, h]
theorem made_ints (n : Nat) : (madeCells (Value.int .i64 0).cells (n * 1)).toList = ints (List.replicate n 0) := by
  show (madeCells #[Value.int .i64 0] (n * 1)).toList = _
  rw [toList_madeCells_one, Nat.mul_one]; simp [ints]
theorem made_bools (n : Nat) : (madeCells (Value.bool false).cells (n * 1)).toList = bools (List.replicate n false) := by
  show (madeCells #[Value.bool false] (n * 1)).toList = _
  rw [toList_madeCells_one, Nat.mul_one]; simp [bools]
theorem made_rows (n : Nat) : (madeCells (Value.slice none 0 0).cells (n * 1)).toList = List.replicate n (.slice none 0 0) := by
  show (madeCells #[Value.slice none 0 0] (n * 1)).toList = _
  rw [toList_madeCells_one, Nat.mul_one]
theorem grown_b {w w' : World} (h : w.grownBy w' none) : Below w.heap.size w w' := Below.grown (Below.refl _ _) h (Nat.le_refl _) (by intro k hk; cases hk)
/-- Lists of numbers of one's own, each in a row of its own. -/
def RowsS (B : Nat) (w : World) (ll : List (List Int)) (us : List Value) : Prop :=
  us.length = ll.length ∧ (∀ (i : Nat) (l : List Int), ll[i]? = some l → ∃ u, us[i]? = some u ∧ w.ownsRow B 3 1 u l.length (ints l)) ∧
  (∀ (i j : Nat) (u v : Value), i ≠ j → us[i]? = some u → us[j]? = some v → u.ownBlock = none ∨ u.ownBlock ≠ v.ownBlock)
theorem RowsS.start (B : Nat) (w : World) (n : Nat) : RowsS B w (List.replicate n []) (List.replicate n (.slice none 0 0)) := by
  refine ⟨by simp, fun i l h => ?_, fun i j u v _ h _ => ?_⟩
  · obtain ⟨hi, rfl⟩ := List.getElem?_eq_some_iff.1 h
    refine ⟨.slice none 0 0, by rw [List.getElem?_replicate, if_pos (by simpa using hi)], ?_⟩
    rw [List.getElem_replicate]
    exact World.ownsRow_nil _ _ _ _
  · obtain ⟨hi, rfl⟩ := List.getElem?_eq_some_iff.1 h
    rw [List.getElem_replicate]
    exact .inl rfl
theorem RowsS.map {B : Nat} {w w' : World} {ll : List (List Int)} {us : List Value} (h : RowsS B w ll us) (f : ∀ (v : Value) (n : Nat) (xs : List Value), w.ownsRow B 3 1 v n xs → w'.ownsRow B 3 1 v n xs) : RowsS B w' ll us := by
  refine ⟨h.1, fun i l hl => ?_, h.2.2⟩
  obtain ⟨u, k1, k2⟩ := h.2.1 i l hl
  exact ⟨u, k1, f _ _ _ k2⟩
theorem RowsS.below {B : Nat} {w w' : World} {ll : List (List Int)} {us : List Value} (h : RowsS B w ll us) (b : Below w.heap.size w w') : RowsS B w' ll us := h.map fun v n xs => own_below b B 3 1 v n xs
theorem RowsS.put {B : Nat} {w : World} {ll : List (List Int)} {us : List Value} (h : RowsS B w ll us) {p : Addr} (hp : p.block < B) (x : Value) : RowsS B (w.setCell p x) ll us := h.map fun _ _ _ hv => ownsRow_setCell_below hv hp x
theorem RowsS.at {B : Nat} {w : World} {ll : List (List Int)} {us : List Value} (h : RowsS B w ll us) {i : Nat} (hi : i < ll.length) : ∃ l u, ll[i]? = some l ∧ us[i]? = some u ∧ w.ownsRow B 3 1 u l.length (ints l) := by
  have hl : ll[i]? = some ll[i] := List.getElem?_eq_getElem hi
  obtain ⟨u, k1, k2⟩ := h.2.1 i _ hl
  exact ⟨_, u, hl, k1, k2⟩
theorem RowsS.step {B : Nat} {wr w2 : World} {ll : List (List Int)} {us : List Value} {i : Nat} {l : List Int} {u v' : Value} {x : Int} {o : Obj} (h : RowsS B wr ll us) (hl : ll[i]? = some l) (hu : us[i]? = some u)
    (own : w2.ownsRow B 3 1 v' (l.length + 1) (ints l ++ [.int .i64 x])) (hg : (wr.alloc o).grownBy w2 u.ownBlock) (hat : v'.ownBlock = u.ownBlock ∨ v'.ownBlock = some (wr.alloc o).heap.size) : RowsS B w2 (ll.set i (l ++ [x])) (us.set i v') := by
  obtain ⟨h1, h2, h3⟩ := h
  have hi := (List.getElem?_eq_some_iff.1 hl).1
  have hiu := (List.getElem?_eq_some_iff.1 hu).1
  have small : ∀ (j : Nat) (v : Value), us[j]? = some v → ∀ k, v.ownBlock = some k → k < wr.heap.size := by
    intro j v hv k hk
    have hj : j < ll.length := by have := (List.getElem?_eq_some_iff.1 hv).1; omega
    obtain ⟨y, q1, q2⟩ := h2 j _ (List.getElem?_eq_getElem hj)
    rw [hv] at q1
    injection q1 with q1
    subst q1
    exact (q2.lt k hk).2
  have far : ∀ (j : Nat) (v : Value), j ≠ i → us[j]? = some v → v.ownBlock = none ∨ v.ownBlock ≠ v'.ownBlock := by
    intro j v hj hv
    rcases hat with e | e
    · rw [e]; exact h3 j i v u hj hv hu
    · cases hb : v.ownBlock with
      | none => exact .inl rfl
      | some k =>
        right
        rw [e]
        have := small j v hv k hb
        simp
        omega
  refine ⟨by simp [h1], fun j m hm => ?_, fun j k a b hjk ha hb => ?_⟩
  · rw [List.getElem?_set] at hm
    by_cases e : i = j
    · subst e
      rw [if_pos rfl, if_pos hi] at hm
      injection hm with hm
      subst hm
      refine ⟨v', by rw [List.getElem?_set, if_pos rfl, if_pos hiu], by simpa [ints] using own⟩
    · rw [if_neg e] at hm
      obtain ⟨y, q1, q2⟩ := h2 j m hm
      refine ⟨y, by rw [List.getElem?_set_ne e]; exact q1, ?_⟩
      exact (q2.alloc o).kept hg (h3 j i y u (fun e2 => e e2.symm) q1 hu)
  · rw [List.getElem?_set] at ha hb
    by_cases e : i = j
    · subst e
      rw [if_pos rfl, if_pos hiu] at ha
      injection ha with ha
      subst ha
      rw [if_neg hjk] at hb
      rcases far k b (fun e => hjk e.symm) hb with q | q
      · cases hv : v'.ownBlock with
        | none => exact .inl rfl
        | some z => right; rw [q]; simp
      · exact .inr fun e => q e.symm
    · rw [if_neg e] at ha
      by_cases e2 : i = k
      · subst e2
        rw [if_pos rfl, if_pos hiu] at hb
        injection hb with hb
        subst hb
        exact far j a hjk ha
      · rw [if_neg e2] at hb
        exact h3 j k a b hjk ha hb
theorem RowsS.rows {B B' g n : Nat} {w : World} {ll : List (List Int)} {us : List Value} (h : RowsS B w ll us) (hr : RowAt w B' 22 g n us) (hB : B' ≤ B) : RowsO B' w ll (.slice (some ⟨g, 0, none⟩) n n) := by
  have e : n = ll.length := by have := hr.len; have := h.1; omega
  subst e
  refine ⟨us, hr, h.1, fun i l hl => ?_⟩
  obtain ⟨u, k1, k2⟩ := h.2.1 i l hl
  exact ⟨u, k1, own_base k2 hB⟩
end Go.Proofs.YtfmeadbiokcboaaDoor
namespace Go.Proofs.YtfmeadbiokcboaaDoor
open Go Go.RowKit
open G (Tok Er Ins Fun)
/-- The first so many blocks that go to a block. -/
def predTo (f : Fun) (b k : Nat) : List Int := ((List.range k).filter fun j => hasL (nextF f j) b).map Int.ofNat
def predsF (f : Fun) : List (List Int) := (List.range f.2.2.2.1.length).map fun b => predTo f b f.2.2.2.1.length
theorem predTo_yes {f : Fun} {b k : Nat} (h : hasL (nextF f k) b = true) : predTo f b (k + 1) = predTo f b k ++ [(k : Int)] := by
  unfold predTo; rw [List.range_succ, List.filter_append, List.map_append]; simp [h]
theorem predTo_no {f : Fun} {b k : Nat} (h : hasL (nextF f k) b = false) : predTo f b (k + 1) = predTo f b k := by
  unfold predTo; rw [List.range_succ, List.filter_append, List.map_append]; simp [h]
theorem predTo_len (f : Fun) (b k : Nat) : (predTo f b k).length ≤ k := by
  unfold predTo; rw [List.length_map]
  exact Nat.le_trans (List.length_filter_le _ _) (by simp)
end Go.Proofs.YtfmeadbiokcboaaDoor
namespace Go.Proofs.YtfmeadbiokcboaaDoor
open Go Go.RowKit
open G (Tok Er Ins Fun)
/-- What lay from a block on is as it was. -/
def Mid (B : Nat) (W w : World) : Prop := W.heap.size ≤ w.heap.size ∧ ∀ k, B ≤ k → k < W.heap.size → w.heap[k]? = W.heap[k]?
theorem Mid.refl (B : Nat) (W : World) : Mid B W W := ⟨Nat.le_refl _, fun _ _ _ => rfl⟩
theorem Mid.put {B : Nat} {W w : World} (h : Mid B W w) {p : Addr} (hp : p.block < B ∨ W.heap.size ≤ p.block) (u : Value) : Mid B W (w.setCell p u) :=
  ⟨by simpa using h.1, fun k h1 h2 => (Below.heap_setCell w p u k (by omega)).trans (h.2 k h1 h2)⟩
theorem Mid.alloc {B : Nat} {W w : World} (h : Mid B W w) (o : Obj) : Mid B W (w.alloc o) :=
  ⟨by have := h.1; simp; omega, fun k h1 h2 => (Below.heap_alloc w o k (by have := h.1; omega)).trans (h.2 k h1 h2)⟩
theorem Mid.grown {B : Nat} {W w w' : World} {row : Option Nat} (h : Mid B W w) (hg : w.grownBy w' row) (hr : ∀ k, row = some k → k < B ∨ W.heap.size ≤ k) : Mid B W w' :=
  ⟨Nat.le_trans h.1 hg.size, fun k h1 h2 => (hg.block k (by have := h.1; omega) (fun e => by have := hr k e.symm; omega)).trans (h.2 k h1 h2)⟩
theorem Mid.below {B : Nat} {W w w' : World} (h : Mid B W w) (b : Below w.heap.size w w') : Mid B W w' :=
  ⟨Nat.le_trans h.1 b.size, fun k h1 h2 => (b.block k (by have := h.1; omega)).trans (h.2 k h1 h2)⟩
theorem Mid.cell {B : Nat} {W w : World} (h : Mid B W w) {p : Addr} (h1 : B ≤ p.block) (h2 : p.block < W.heap.size) : w.cell? p = W.cell? p := World.cell?_of_block (w := W) (h.2 p.block h1 h2)
theorem own_mid {B e s n : Nat} {W w : World} {v : Value} {xs : List Value} (h : W.ownsRow B e s v n xs) (m : Mid B W w) : w.ownsRow B e s v n xs := by
  refine ⟨h.1, ?_⟩
  rcases h.2 with hn | ⟨g, cap, cur, rfl, hb, hgg, rest⟩
  · exact .inl hn
  · exact .inr ⟨g, cap, cur, rfl, hb, (m.2 g hb (Array.getElem?_eq_some_iff.1 hgg).1).trans hgg, rest⟩
theorem RowsO.mid {B : Nat} {W w : World} {ll : List (List Int)} {v : Value} (h : RowsO B W ll v) (m : Mid B W w) : RowsO B w ll v := by
  obtain ⟨us, h1, h2, h3⟩ := h
  refine ⟨us, own_mid h1 m, h2, fun i l hl => ?_⟩
  obtain ⟨u, k1, k2⟩ := h3 i l hl
  exact ⟨u, k1, own_mid k2 m⟩
theorem RowsO.row {B n c : Nat} {w : World} {ll : List (List Int)} {ao : Option Addr} (h : RowsO B w ll (.slice ao n c)) {K : Nat} {l : List Int} (hl : ll[K]? = some l) :
    ∃ g lo lc, ao = some ⟨g, 0, none⟩ ∧ w.cell? ⟨g, K, none⟩ = some (.slice lo l.length lc) ∧ w.ownsRow B 3 1 (.slice lo l.length lc) l.length (ints l) ∧ B ≤ g ∧ g < w.heap.size := by
  obtain ⟨us, h1, h2, h3⟩ := h
  obtain ⟨u, k1, k2⟩ := h3 K l hl
  obtain ⟨lo, lc, rfl⟩ := own_len k2
  have hK := (List.getElem?_eq_some_iff.1 hl).1
  rcases own_view h1 with ⟨_, hn⟩ | ⟨g, cap, e, q1, q2, q3, q4, q5, q6⟩
  · omega
  · injection e with e1 e2 e3
    exact ⟨g, lo, lc, e1, q5 K _ k1, k2, q3, q4⟩
theorem own_cell {B n c : Nat} {w : World} {l : List Int} {ao : Option Addr} (h : w.ownsRow B 3 1 (.slice ao n c) l.length (ints l)) {j : Nat} {m : Int} (hm : l[j]? = some m) :
    ∃ g, ao = some ⟨g, 0, none⟩ ∧ w.cell? ⟨g, j, none⟩ = some (.int .i64 m) ∧ g < w.heap.size := by
  have hj := (List.getElem?_eq_some_iff.1 hm).1
  rcases own_view h with ⟨_, hn⟩ | ⟨g, cap, e, q1, q2, q3, q4, q5, q6⟩
  · omega
  · injection e with e1 e2 e3
    exact ⟨g, e1, q5 j _ (ints_at hm), q4⟩
theorem once_nodup (l : List Int) : (onceL l).Nodup := by
  have key : ∀ (l acc : List Int), acc.Nodup → (l.foldl addL acc).Nodup := by
    intro l
    induction l with
    | nil => intro acc h; exact h
    | cons m l ih =>
      intro acc h
      rw [List.foldl_cons]
      refine ih _ ?_
      cases hh : hasL acc m with
      | true => rw [addL_yes hh]; exact h
      | false =>
        rw [addL_no hh]
        refine List.nodup_append.2 ⟨h, by simp, ?_⟩
        rintro x hx y hy rfl
        simp at hy
        subst hy
        rw [hasL_mem.2 hx] at hh
        cases hh
  exact key l [] List.nodup_nil
theorem take_fresh {l : List Int} (h : l.Nodup) {j : Nat} {m : Int} (hm : l[j]? = some m) : hasL (l.take j) m = false := by
  cases hh : hasL (l.take j) m with
  | false => rfl
  | true =>
    exfalso
    have h1 := hasL_mem.1 hh
    obtain ⟨i, hi, e⟩ := List.mem_iff_getElem.1 h1
    have hij : i < j := by rw [List.length_take] at hi; omega
    obtain ⟨hj, e2⟩ := List.getElem?_eq_some_iff.1 hm
    rw [List.getElem_take] at e
    exact absurd ((List.getElem_inj h).1 (e.trans e2.symm)) (by omega)
/-- The blocks that go to each block, from those ahead of one, and from it to some. -/
def pRows (f : Fun) (K : Nat) (acc : List Int) : List (List Int) := (List.range f.2.2.2.1.length).map fun (b : Nat) => predTo f b K ++ (if hasL acc b then [(K : Int)] else [])
theorem pRows_len (f : Fun) (K : Nat) (acc : List Int) : (pRows f K acc).length = f.2.2.2.1.length := by simp [pRows]
theorem pRows_at {f : Fun} (K : Nat) (acc : List Int) {M : Nat} (hM : M < f.2.2.2.1.length) : (pRows f K acc)[M]? = some (predTo f M K ++ (if hasL acc M then [(K : Int)] else [])) := by
  unfold pRows; rw [List.getElem?_map, List.getElem?_range hM]; rfl
theorem pRows_start (f : Fun) : pRows f 0 [] = List.replicate f.2.2.2.1.length [] := by
  apply List.ext_getElem?
  intro j
  rw [List.getElem?_replicate]
  by_cases hj : j < f.2.2.2.1.length
  · rw [pRows_at _ _ hj, if_pos hj]; simp [predTo, hasL]
  · rw [if_neg hj, List.getElem?_eq_none (by rw [pRows_len]; omega)]
theorem pRows_put {f : Fun} {K M : Nat} {acc : List Int} (hM : M < f.2.2.2.1.length) : (pRows f K acc).set M (predTo f M K ++ [(K : Int)]) = pRows f K (acc ++ [(M : Int)]) := by
  apply List.ext_getElem?
  intro j
  rw [List.getElem?_set, pRows_len]
  by_cases hj : j < f.2.2.2.1.length
  · rw [pRows_at _ _ hj, pRows_at _ _ hj]
    by_cases e : M = j
    · subst e
      rw [if_pos rfl, if_pos hM, hasL_snoc]; simp
    · have e2 : ¬ (M : Int) = (j : Int) := by omega
      rw [if_neg e, hasL_snoc]; simp [e2]
  · have n1 : ∀ acc, (pRows f K acc)[j]? = none := fun acc => List.getElem?_eq_none (by rw [pRows_len]; omega)
    rw [n1, n1]
    by_cases e : M = j
    · omega
    · rw [if_neg e]
theorem pRows_next (f : Fun) (K : Nat) : pRows f K (nextF f K) = pRows f (K + 1) [] := by
  apply List.ext_getElem?
  intro j
  by_cases hj : j < f.2.2.2.1.length
  · rw [pRows_at _ _ hj, pRows_at _ _ hj]
    cases hh : hasL (nextF f K) j with
    | true => rw [predTo_yes hh]; simp [hasL]
    | false => rw [predTo_no hh]; simp [hasL]
  · rw [List.getElem?_eq_none (by rw [pRows_len]; omega), List.getElem?_eq_none (by rw [pRows_len]; omega)]
theorem pRows_end (f : Fun) : pRows f f.2.2.2.1.length [] = predsF f := by
  unfold pRows predsF
  apply List.map_congr_left
  intro b _
  simp [hasL]
end Go.Proofs.YtfmeadbiokcboaaDoor
