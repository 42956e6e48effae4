/- Layer 7, the reference: what Check answers. -/
import Derived.Test.YtahhbckccdigoaaGreatDoorMbAW
import Derived.Test.YtahhbckccdigoaaGreatDoorMbBA
set_option maxHeartbeats 8000000
set_option maxRecDepth 20000
namespace Go.Proofs.YtahhbckccdigoaaGreatDoor
open Go Go.RowKit
open G (Tok Er Ins Fun)
def mostN (k : Int) : Int := if k = 1 then 9223372036854775807 else if k = 11 \/ k = 12 \/ k = 15 \/ k = 13 \/ k = 14 then 15 else if k = 21 \/ k = 23 \/ k = 24 then 1048576 else if k = 29 then 255 else -1
theorem most1 (w : World) : Calls Tryz.prog 49 #[.int .i64 1] w fun e w' => e = .returned (.int .i64 (mostN 1)) /\ w' = w := by
  go_enter Tryz.func49, Tryz.ntmps49
  go_wp2_with fail
  go_ret
  exact ⟨rfl, rfl⟩
theorem most11 (w : World) : Calls Tryz.prog 49 #[.int .i64 11] w fun e w' => e = .returned (.int .i64 (mostN 11)) /\ w' = w := by
  go_enter Tryz.func49, Tryz.ntmps49
  go_wp2_with fail
  go_ret
  exact ⟨rfl, rfl⟩
theorem most12 (w : World) : Calls Tryz.prog 49 #[.int .i64 12] w fun e w' => e = .returned (.int .i64 (mostN 12)) /\ w' = w := by
  go_enter Tryz.func49, Tryz.ntmps49
  go_wp2_with fail
  go_ret
  exact ⟨rfl, rfl⟩
theorem most15 (w : World) : Calls Tryz.prog 49 #[.int .i64 15] w fun e w' => e = .returned (.int .i64 (mostN 15)) /\ w' = w := by
  go_enter Tryz.func49, Tryz.ntmps49
  go_wp2_with fail
  go_ret
  exact ⟨rfl, rfl⟩
theorem most13 (w : World) : Calls Tryz.prog 49 #[.int .i64 13] w fun e w' => e = .returned (.int .i64 (mostN 13)) /\ w' = w := by
  go_enter Tryz.func49, Tryz.ntmps49
  go_wp2_with fail
  go_ret
  exact ⟨rfl, rfl⟩
theorem most14 (w : World) : Calls Tryz.prog 49 #[.int .i64 14] w fun e w' => e = .returned (.int .i64 (mostN 14)) /\ w' = w := by
  go_enter Tryz.func49, Tryz.ntmps49
  go_wp2_with fail
  go_ret
  exact ⟨rfl, rfl⟩
theorem most23 (w : World) : Calls Tryz.prog 49 #[.int .i64 23] w fun e w' => e = .returned (.int .i64 (mostN 23)) /\ w' = w := by
  go_enter Tryz.func49, Tryz.ntmps49
  go_wp2_with fail
  go_ret
  exact ⟨rfl, rfl⟩
theorem most21 (w : World) : Calls Tryz.prog 49 #[.int .i64 21] w fun e w' => e = .returned (.int .i64 (mostN 21)) /\ w' = w := by
  go_enter Tryz.func49, Tryz.ntmps49
  go_wp2_with fail
  go_ret
  exact ⟨rfl, rfl⟩
theorem most24 (w : World) : Calls Tryz.prog 49 #[.int .i64 24] w fun e w' => e = .returned (.int .i64 (mostN 24)) /\ w' = w := by
  go_enter Tryz.func49, Tryz.ntmps49
  go_wp2_with fail
  go_ret
  exact ⟨rfl, rfl⟩
theorem most29 (w : World) : Calls Tryz.prog 49 #[.int .i64 29] w fun e w' => e = .returned (.int .i64 (mostN 29)) /\ w' = w := by
  go_enter Tryz.func49, Tryz.ntmps49
  go_wp2_with fail
  go_ret
  exact ⟨rfl, rfl⟩
theorem most_else (k : Int) (hk : k ≠ 1 /\ k ≠ 11 /\ k ≠ 12 /\ k ≠ 15 /\ k ≠ 13 /\ k ≠ 14 /\ k ≠ 23 /\ k ≠ 21 /\ k ≠ 24 /\ k ≠ 29) (w : World) : Calls Tryz.prog 49 #[.int .i64 k] w fun e w' => e = .returned (.int .i64 (mostN k)) /\ w' = w := by
  have HB : Hid ((-1 : Int) = mostN k) := hide (by unfold mostN; rw [if_neg (by omega), if_neg (by omega), if_neg (by omega), if_neg (by omega)])
  obtain ⟨n1, n11, n12, n15, n13, n14, n23, n21, n24, n29⟩ := hk
  replace n1 : (k == 1) = false := by simpa using n1
  replace n11 : (k == 11) = false := by simpa using n11
  replace n12 : (k == 12) = false := by simpa using n12
  replace n15 : (k == 15) = false := by simpa using n15
  replace n13 : (k == 13) = false := by simpa using n13
  replace n14 : (k == 14) = false := by simpa using n14
  replace n23 : (k == 23) = false := by simpa using n23
  replace n21 : (k == 21) = false := by simpa using n21
  replace n24 : (k == 24) = false := by simpa using n24
  replace n29 : (k == 29) = false := by simpa using n29
  go_enter Tryz.func49, Tryz.ntmps49
  go_wp2_with fail
  go_ret
  exact ⟨L5.ret_int HB.out, rfl⟩
theorem most_any (k : Int) (w : World) : Calls Tryz.prog 49 #[.int .i64 k] w fun e w' => e = .returned (.int .i64 (mostN k)) /\ w' = w := by
  by_cases h1 : k = 1
  . subst h1; exact most1 w
  by_cases h11 : k = 11
  . subst h11; exact most11 w
  by_cases h12 : k = 12
  . subst h12; exact most12 w
  by_cases h15 : k = 15
  . subst h15; exact most15 w
  by_cases h13 : k = 13
  . subst h13; exact most13 w
  by_cases h14 : k = 14
  . subst h14; exact most14 w
  by_cases h23 : k = 23
  . subst h23; exact most23 w
  by_cases h21 : k = 21
  . subst h21; exact most21 w
  by_cases h24 : k = 24
  . subst h24; exact most24 w
  by_cases h29 : k = 29
  . subst h29; exact most29 w
  exact most_else k ⟨h1, h11, h12, h15, h13, h14, h23, h21, h24, h29⟩ w
theorem rng_cases {k n : Int} (hn : I64 n) : (rngOk k n = true /\ ((mostN k < 0 /\ n = 0) \/ (0 <= mostN k /\ n <= mostN k /\ 0 <= n) \/ (0 <= mostN k /\ n <= mostN k /\ n < 0 /\ k = 1))) \/
    (rngOk k n = false /\ ((mostN k < 0 /\ n ≠ 0) \/ (0 <= mostN k /\ mostN k < n) \/ (0 <= mostN k /\ n <= mostN k /\ n < 0 /\ k ≠ 1))) := by
  obtain ⟨h1, h2⟩ := hn
  unfold rngOk mostN
  split
  . rename_i hk; subst hk; simp; omega
  . split
    . simp; omega
    . split
      . simp; omega
      . split
        . simp; omega
        . simp; omega
theorem any_take (most : Int) (l : List Int) (j : Nat) (y : Int) (h : l[j]? = some y) : (l.take (j + 1)).any (byd most) = ((l.take j).any (byd most) || byd most y) := by
  rw [List.take_add_one, h]; simp
theorem any_hit (most : Int) (l : List Int) (j : Nat) (y : Int) (h : l[j]? = some y) (hb : byd most y = true) : l.any (byd most) = true := by
  rw [List.any_eq_true]; exact ⟨y, List.mem_of_getElem? h, hb⟩
theorem rcheck_try (k id n ty pl : Int) (ar tt : List Int) (nm : List UInt8) (ao to : Option Addr) (ca ct : Nat) (w : World) (hs1 : Sl w ao ar) (hs2 : Sl w to tt) (hL : ar.length <= maxLen /\ tt.length <= maxLen) (hn : I64 n) (hl : nm.length <= maxLen) :
    Calls Tryz.prog 17 #[.agg #[.int .i64 k, .int .i64 id, .int .i64 n, .int .i64 ty, .slice ao ar.length ca, .slice to tt.length ct, .string (bs nm), .int .i64 pl]] w fun e w' => e = .returned (.int .i64 (checkC (k, id, n, ty, ar, tt, nm, pl))) /\ Below w.heap.size w w' := by
  have b0 := below_box w (o8 k id n ty pl ao to ar.length tt.length ca ct nm)
  have H0 := hide (heap_alloc_new w (o8 k id n ty pl ao to ar.length tt.length ca ct nm))
  have A0 := hide (hs1.below b0)
  have U0 := hide (hs2.below b0)
  have B0 := hide b0
  have hz0 : (w.alloc (o8 k id n ty pl ao to ar.length tt.length ca ct nm)).heap.size > w.heap.size := by simp
  have HL := hide hL
  obtain ⟨hLa, hLt⟩ := hL
  unfold maxLen at hLa hLt
  have HN := hide hn
  have HSZ : Hid ((bs nm).size <= maxLen) := hide (by rw [bs_size]; exact hl)
  have HRC := hide (rng_cases (k := k) hn)
  clear b0 hs1 hs2 hn hl
  go_enter Tryz.func17, Tryz.ntmps17
  go_upto_region 1 with fail
  show Code.wp _ _ _ _ (w.alloc (o8 k id n ty pl ao to ar.length tt.length ca ct nm))
  generalize w.alloc (o8 k id n ty pl ao to ar.length tt.length ca ct nm) = W at *
  obtain ⟨c0, c1, c2, c3, c4, c5, c6, c7⟩ := box8 H0.out
  by_cases ho1 : k < 1
  . have HC : Hid ((2 : Int) = checkC (k, id, n, ty, ar, tt, nm, pl)) := hide (by unfold checkC; rw [if_pos (by dsimp only; unfold opOk; rw [show decide (1 <= k) = false by simp; omega]; rfl)])
    go_wp2_with fail
    go_ret
    exact ⟨L5.ret_int HC.out, below_step B0.out (Below.refl _ _)⟩
  by_cases ho2 : 29 < k
  . have HC : Hid ((2 : Int) = checkC (k, id, n, ty, ar, tt, nm, pl)) := hide (by unfold checkC; rw [if_pos (by dsimp only; unfold opOk; rw [show decide (k <= 29) = false by simp; omega]; simp)])
    go_wp2_with fail
    go_ret
    exact ⟨L5.ret_int HC.out, below_step B0.out (Below.refl _ _)⟩
  have HO : Hid (opOk k = true) := hide (by unfold opOk; simp; omega)
  go_wp2_with fail
  refine (L5.refMay_any k ty _).mono ?_; rintro e w1 ⟨rfl, hw1⟩
  rw [hw1]
  clear hw1
  cases hm : L5.may k ty with
  | false =>
    have HC : Hid ((2 : Int) = checkC (k, id, n, ty, ar, tt, nm, pl)) := hide (by unfold checkC; rw [if_pos (by dsimp only; rw [hm, Bool.and_false])])
    replace hm := hide hm
    go_wp2_with fail
    go_ret
    exact ⟨L5.ret_int HC.out, below_step B0.out (Below.refl _ _)⟩
  | true =>
  have HF1 : Hid (¬ ((opOk k && L5.may k ty) = false)) := hide (by rw [HO.out, hm]; simp)
  replace hm := hide hm
  go_wp2_with fail
  refine (L5.refMakes_any k ty _ _ _ _ _ _ W).mono ?_; rintro e w2 ⟨rfl, b2⟩
  have B2 := hide b2
  clear b2
  clear c0 c1 c2 c3 c4 c5 c6 c7
  obtain ⟨c0, c1, c2, c3, c4, c5, c6, c7⟩ := box8 ((B2.out.block _ (by omega)).trans H0.out)
  have HNU : Hid ((L5.imakes k ty = 0 /\ id = -1 \/ L5.imakes k ty ≠ 0 /\ ¬ id < 0 /\ ¬ 1048576 < id) /\ numOk k id ty = true \/ ((L5.imakes k ty = 0 /\ id ≠ -1) \/ (L5.imakes k ty ≠ 0 /\ id < 0) \/ (L5.imakes k ty ≠ 0 /\ ¬ id < 0 /\ 1048576 < id)) /\ numOk k id ty = false) := hide (by
    unfold numOk byd
    by_cases h : L5.imakes k ty = 0
    . rw [if_pos h]; by_cases h2 : id = -1 <;> simp [h, h2]
    . rw [if_neg h]; by_cases h2 : id < 0 <;> by_cases h3 : 1048576 < id <;> simp [h, h2, h3])
  generalize L5.imakes k ty = mk at *
  rcases HNU.out with ⟨hq1, hq⟩ | ⟨hq1, hq⟩
  rotate_left
  . have HC : Hid ((8 : Int) = checkC (k, id, n, ty, ar, tt, nm, pl)) := hide (by unfold checkC; rw [if_neg HF1.out, if_pos hq])
    replace hq := hide hq
    clear HNU HRC
    rcases hq1 with ⟨hq2, hq3⟩ | ⟨hq2, hq3⟩ | ⟨hq2, hq3, hq4⟩
    . subst hq2
      have hq5 : (id == -1) = false := by simpa using hq3
      have hq6 : (id != -1) = true := by rw [bne, hq5]; rfl
      go_wp2_with fail
      go_ret
      exact ⟨L5.ret_int HC.out, below_step B0.out B2.out⟩
    . have hq5 : (mk != 0) = true := by simpa using hq2
      go_wp2_with fail
      go_ret
      exact ⟨L5.ret_int HC.out, below_step B0.out B2.out⟩
    . have hq5 : (mk != 0) = true := by simpa using hq2
      go_wp2_with fail
      go_ret
      exact ⟨L5.ret_int HC.out, below_step B0.out B2.out⟩
  have HF2 : Hid (¬ (numOk k id ty = false)) := hide (by rw [hq]; simp)
  replace hq := hide hq
  clear HNU
  have BOX := hide H0.out
  have MAIN : ∀ (_ : (mk = 0 /\ id = -1) \/ (mk ≠ 0 /\ ¬ id < 0 /\ ¬ 1048576 < id)), True := fun _ => trivial
  clear MAIN BOX
  rcases hq1 with ⟨hq2, hq3⟩ | ⟨hq2, hq3, hq4⟩
  . subst hq2
    subst hq3
    go_wp2_with fail
    refine (rcounted_any k (-1) n ty pl ar tt nm ao to ca ct _ HL.out).mono ?_; rintro e w3 ⟨rfl, b3⟩
    have B3 := hide (below_step B2.out b3)
    clear b3
    cases hc : cntOk k ar.length tt.length with
    | false =>
      have HC : Hid ((13 : Int) = checkC (k, -1, n, ty, ar, tt, nm, pl)) := hide (by unfold checkC; rw [if_neg HF1.out, if_neg HF2.out, if_pos hc])
      replace hc := hide hc
      go_wp2_with fail
      go_ret
      exact ⟨L5.ret_int HC.out, below_step B0.out B3.out⟩
    | true =>
    have HF3 : Hid (¬ (cntOk k ar.length tt.length = false)) := hide (by rw [hc]; simp)
    replace hc := hide hc
    clear c0 c1 c2 c3 c4 c5 c6 c7
    obtain ⟨c0, c1, c2, c3, c4, c5, c6, c7⟩ := box8 ((B3.out.block _ (by omega)).trans H0.out)
    go_wp2_with fail
    refine (most_any k _).mono ?_; rintro e w4 ⟨rfl, hw4⟩
    rw [hw4]
    clear hw4
    have B4 := hide B3.out
    generalize mostN k = top at *
    rcases HRC.out with ⟨hr, hr1⟩ | ⟨hr, hr1⟩
    rotate_left
    . have HC : Hid ((18 : Int) = checkC (k, -1, n, ty, ar, tt, nm, pl)) := hide (by unfold checkC; rw [if_neg HF1.out, if_neg HF2.out, if_neg HF3.out, if_pos hr])
      replace hr := hide hr
      clear HRC
      rcases hr1 with ⟨h1, h2⟩ | ⟨h1, h2⟩ | ⟨h1, h2, h3, h4⟩
      . have h5 : (n != 0) = true := by simpa using h2
        go_wp2_with fail
        go_ret
        exact ⟨L5.ret_int HC.out, below_step B0.out B4.out⟩
      . have h5 : ¬ top < 0 := by omega
        go_wp2_with fail
        go_ret
        exact ⟨L5.ret_int HC.out, below_step B0.out B4.out⟩
      . have h5 : ¬ top < 0 := by omega
        have h6 : ¬ top < n := by omega
        have h7 : (k != 1) = true := by simpa using h4
        go_wp2_with fail
        go_ret
        exact ⟨L5.ret_int HC.out, below_step B0.out B4.out⟩
    have HF4 : Hid (¬ (rngOk k n = false)) := hide (by rw [hr]; simp)
    replace hr := hide hr
    clear HRC
    rcases hr1 with ⟨h1, h2⟩ | ⟨h1, h2, h3⟩ | ⟨h1, h2, h3, h4⟩
    . have h5 : (n != 0) = false := by rw [h2]; rfl
      have h6 : ¬ 0 <= top := by omega
      replace h2 := hide h2
      clear c0 c1 c3 c4 c5 c6 c7
      obtain ⟨c0, c1, c2, c3, c4, c5, c6, c7⟩ := box8 ((B4.out.block _ (by omega)).trans H0.out)
      go_wp2_with fail
      clear c0 c1 c2 c3 c4 c5 c6 c7
      go_loopw [5] (fun i wr => ∃ j : Nat, j <= ar.length /\ i = .int .i64 j /\ Hid ((ar.take j).any (byd 1048576) = false) /\ Hid (Below W.heap.size W wr)) (fun i _ => ar.length - (intOf i).toNat)
      case atStart => exact ⟨0, Nat.zero_le _, rfl, hide rfl, B4⟩
      case round =>
        obtain ⟨j, hj, rfl, HA5, HWa⟩ := hrel
        obtain ⟨c0, c1, c2, c3, c4, c5, c6, c7⟩ := box8 ((HWa.out.block _ (by omega)).trans H0.out)
        by_cases hlt : j < ar.length
        . obtain ⟨y, hy⟩ : ∃ y, ar[j]? = some y := ⟨_, List.getElem?_eq_getElem hlt⟩
          rcases A0.out with he | ⟨g, o, rfl, hg, hcc⟩
          . subst he; simp at hlt
          have hcell := (HWa.out.cell (p := ⟨g, o + j, none⟩) hg).trans (hcc j y hy)
          have hlt' : (j : Int) < ar.length := by omega
          have HT := hide (any_take 1048576 ar j y hy)
          have HH := hide (any_hit 1048576 ar j y hy)
          clear hcc hy
          by_cases hy0 : y < 0
          . have HC : Hid ((8 : Int) = checkC (k, -1, n, ty, ar, tt, nm, pl)) := hide (by unfold checkC; rw [if_neg HF1.out, if_neg HF2.out, if_neg HF3.out, if_neg HF4.out, if_pos (HH.out (by simp [byd, hy0]))])
            clear HH HT
            go_wp2_with fail
            go_ret
            exact ⟨L5.ret_int HC.out, below_step B0.out HWa.out⟩
          . by_cases hy1 : 1048576 < y
            . have HC : Hid ((8 : Int) = checkC (k, -1, n, ty, ar, tt, nm, pl)) := hide (by unfold checkC; rw [if_neg HF1.out, if_neg HF2.out, if_neg HF3.out, if_neg HF4.out, if_pos (HH.out (by simp [byd, hy1]))])
              clear HH HT
              go_wp2_with fail
              go_ret
              exact ⟨L5.ret_int HC.out, below_step B0.out HWa.out⟩
            . have HT1 := hide (HT.out.trans (by rw [HA5.out]; simp [byd, hy0, hy1] : _ = false))
              clear HH HT
              go_wp2_with fail
              go_roundw
              case rel => exact ⟨j + 1, by omega, by go_num, HT1, HWa⟩
              case measure => simp [intOf]; omega
        . obtain rfl : j = ar.length := by omega
          have HF5 : Hid (¬ (ar.any (byd 1048576) = true)) := hide (by have := HA5.out; rw [List.take_length] at this; rw [this]; simp)
          go_wp2_with fail
          clear c0 c1 c2 c3 c4 c5 c6 c7
          go_loopw [6] (fun i wr => ∃ j : Nat, j <= tt.length /\ i = .int .i64 j /\ Hid ((tt.take j).any (byd 255) = false) /\ Hid (Below W.heap.size W wr)) (fun i _ => tt.length - (intOf i).toNat)
          case atStart => exact ⟨0, Nat.zero_le _, rfl, hide rfl, HWa⟩
          case round =>
            obtain ⟨j, hj, rfl, HA6, HWt⟩ := hrel
            obtain ⟨c0, c1, c2, c3, c4, c5, c6, c7⟩ := box8 ((HWt.out.block _ (by omega)).trans H0.out)
            by_cases hlt : j < tt.length
            . obtain ⟨y, hy⟩ : ∃ y, tt[j]? = some y := ⟨_, List.getElem?_eq_getElem hlt⟩
              rcases U0.out with he | ⟨g, o, rfl, hg, hcc⟩
              . subst he; simp at hlt
              have hcell := (HWt.out.cell (p := ⟨g, o + j, none⟩) hg).trans (hcc j y hy)
              have hlt' : (j : Int) < tt.length := by omega
              have HT := hide (any_take 255 tt j y hy)
              have HH := hide (any_hit 255 tt j y hy)
              clear hcc hy
              by_cases hy0 : y < 0
              . have HC : Hid ((7 : Int) = checkC (k, -1, n, ty, ar, tt, nm, pl)) := hide (by unfold checkC; rw [if_neg HF1.out, if_neg HF2.out, if_neg HF3.out, if_neg HF4.out, if_neg HF5.out, if_pos (HH.out (by simp [byd, hy0]))])
                clear HH HT
                go_wp2_with fail
                go_ret
                exact ⟨L5.ret_int HC.out, below_step B0.out HWt.out⟩
              . by_cases hy1 : 255 < y
                . have HC : Hid ((7 : Int) = checkC (k, -1, n, ty, ar, tt, nm, pl)) := hide (by unfold checkC; rw [if_neg HF1.out, if_neg HF2.out, if_neg HF3.out, if_neg HF4.out, if_neg HF5.out, if_pos (HH.out (by simp [byd, hy1]))])
                  clear HH HT
                  go_wp2_with fail
                  go_ret
                  exact ⟨L5.ret_int HC.out, below_step B0.out HWt.out⟩
                . have HT1 := hide (HT.out.trans (by rw [HA6.out]; simp [byd, hy0, hy1] : _ = false))
                  clear HH HT
                  go_wp2_with fail
                  go_roundw
                  case rel => exact ⟨j + 1, by omega, by go_num, HT1, HWt⟩
                  case measure => simp [intOf]; omega
            . obtain rfl : j = tt.length := by omega
              have HF6 : Hid (¬ (tt.any (byd 255) = true)) := hide (by have := HA6.out; rw [List.take_length] at this; rw [this]; simp)
              clear HA6 HA5
              have HC0 : Hid (namC k nm = checkC (k, -1, n, ty, ar, tt, nm, pl)) := hide (by unfold checkC; rw [if_neg HF1.out, if_neg HF2.out, if_neg HF3.out, if_neg HF4.out, if_neg HF5.out, if_neg HF6.out])
              by_cases h10 : k = 10
              . subst h10
                obtain ⟨a, b, hS⟩ := shp_form nm
                have HS := hide hS
                have HC : Hid (shpF nm = checkC (10, -1, n, ty, ar, tt, nm, pl)) := hide HC0.out
                clear hS HC0
                go_wp2_with fail
                refine (L3.refParse_all (bs nm) _).mono ?_; rintro e w9 ⟨rfl, b9⟩
                rw [HS.out]
                have B9 := hide (below_step HWt.out b9)
                clear b9
                generalize shpF nm = z at *
                go_wp2_with fail
                go_ret
                exact ⟨L5.ret_int HC.out, below_step B0.out (below_step B9.out (below_box w9 _))⟩
              . have e10 : (k == 10) = false := by simpa using h10
                by_cases h21 : k = 21
                . subst h21
                  have HC : Hid (∀ r, L2.nameB nm = r -> (if r then (0 : Int) else 4) = checkC (21, -1, n, ty, ar, tt, nm, pl)) := hide fun r h => by rw [<- HC0.out, <- h]; rfl
                  clear HC0 h10
                  go_wp2_with fail
                  refine (L2.rname_any (bs nm) _ HSZ.out).mono ?_; rintro e w9 ⟨rfl, hw9⟩
                  rw [hw9, bs_data]
                  clear hw9
                  cases hb : L2.nameB nm with
                  | true =>
                    have HC1 := hide (HC.out true hb)
                    go_wp2_with fail
                    go_ret
                    exact ⟨L5.ret_int HC1.out, below_step B0.out HWt.out⟩
                  | false =>
                    have HC1 := hide (HC.out false hb)
                    go_wp2_with fail
                    go_ret
                    exact ⟨L5.ret_int HC1.out, below_step B0.out HWt.out⟩
                . have e21 : (k == 21) = false := by simpa using h21
                  have n21 : (k != 21) = true := by rw [bne, e21]; rfl
                  have HCn : Hid ((if nm = [] then (0 : Int) else 4) = checkC (k, -1, n, ty, ar, tt, nm, pl)) := hide (by rw [<- HC0.out]; unfold namC; rw [if_neg h10, if_neg h21])
                  clear HC0 h10 h21
                  by_cases hnm : nm = []
                  . have HC1 := hide ((if_pos hnm).symm.trans HCn.out)
                    have hE : (bs nm).toList.isEmpty = true := by rw [nm_iff]; simpa using hnm
                    clear hnm HCn
                    go_wp2_with fail
                    go_ret
                    exact ⟨L5.ret_int HC1.out, below_step B0.out HWt.out⟩
                  . have HC1 := hide ((if_neg hnm).symm.trans HCn.out)
                    have hE : (bs nm).toList.isEmpty = false := by rw [nm_iff]; simpa using hnm
                    clear hnm HCn
                    go_wp2_with fail
                    go_ret
                    exact ⟨L5.ret_int HC1.out, below_step B0.out HWt.out⟩
    . have h5 : ¬ top < 0 := by omega
      have h6 : ¬ top < n := by omega
      have h7 : ¬ n < 0 := by omega
      go_wp2_with fail
      clear c0 c1 c2 c3 c4 c5 c6 c7
      go_loopw [5] (fun i wr => ∃ j : Nat, j <= ar.length /\ i = .int .i64 j /\ Hid ((ar.take j).any (byd 1048576) = false) /\ Hid (Below W.heap.size W wr)) (fun i _ => ar.length - (intOf i).toNat)
      case atStart => exact ⟨0, Nat.zero_le _, rfl, hide rfl, B4⟩
      case round =>
        obtain ⟨j, hj, rfl, HA5, HWa⟩ := hrel
        obtain ⟨c0, c1, c2, c3, c4, c5, c6, c7⟩ := box8 ((HWa.out.block _ (by omega)).trans H0.out)
        by_cases hlt : j < ar.length
        . obtain ⟨y, hy⟩ : ∃ y, ar[j]? = some y := ⟨_, List.getElem?_eq_getElem hlt⟩
          rcases A0.out with he | ⟨g, o, rfl, hg, hcc⟩
          . subst he; simp at hlt
          have hcell := (HWa.out.cell (p := ⟨g, o + j, none⟩) hg).trans (hcc j y hy)
          have hlt' : (j : Int) < ar.length := by omega
          have HT := hide (any_take 1048576 ar j y hy)
          have HH := hide (any_hit 1048576 ar j y hy)
          clear hcc hy
          by_cases hy0 : y < 0
          . have HC : Hid ((8 : Int) = checkC (k, -1, n, ty, ar, tt, nm, pl)) := hide (by unfold checkC; rw [if_neg HF1.out, if_neg HF2.out, if_neg HF3.out, if_neg HF4.out, if_pos (HH.out (by simp [byd, hy0]))])
            clear HH HT
            go_wp2_with fail
            go_ret
            exact ⟨L5.ret_int HC.out, below_step B0.out HWa.out⟩
          . by_cases hy1 : 1048576 < y
            . have HC : Hid ((8 : Int) = checkC (k, -1, n, ty, ar, tt, nm, pl)) := hide (by unfold checkC; rw [if_neg HF1.out, if_neg HF2.out, if_neg HF3.out, if_neg HF4.out, if_pos (HH.out (by simp [byd, hy1]))])
              clear HH HT
              go_wp2_with fail
              go_ret
              exact ⟨L5.ret_int HC.out, below_step B0.out HWa.out⟩
            . have HT1 := hide (HT.out.trans (by rw [HA5.out]; simp [byd, hy0, hy1] : _ = false))
              clear HH HT
              go_wp2_with fail
              go_roundw
              case rel => exact ⟨j + 1, by omega, by go_num, HT1, HWa⟩
              case measure => simp [intOf]; omega
        . obtain rfl : j = ar.length := by omega
          have HF5 : Hid (¬ (ar.any (byd 1048576) = true)) := hide (by have := HA5.out; rw [List.take_length] at this; rw [this]; simp)
          go_wp2_with fail
          clear c0 c1 c2 c3 c4 c5 c6 c7
          go_loopw [6] (fun i wr => ∃ j : Nat, j <= tt.length /\ i = .int .i64 j /\ Hid ((tt.take j).any (byd 255) = false) /\ Hid (Below W.heap.size W wr)) (fun i _ => tt.length - (intOf i).toNat)
          case atStart => exact ⟨0, Nat.zero_le _, rfl, hide rfl, HWa⟩
          case round =>
            obtain ⟨j, hj, rfl, HA6, HWt⟩ := hrel
            obtain ⟨c0, c1, c2, c3, c4, c5, c6, c7⟩ := box8 ((HWt.out.block _ (by omega)).trans H0.out)
            by_cases hlt : j < tt.length
            . obtain ⟨y, hy⟩ : ∃ y, tt[j]? = some y := ⟨_, List.getElem?_eq_getElem hlt⟩
              rcases U0.out with he | ⟨g, o, rfl, hg, hcc⟩
              . subst he; simp at hlt
              have hcell := (HWt.out.cell (p := ⟨g, o + j, none⟩) hg).trans (hcc j y hy)
              have hlt' : (j : Int) < tt.length := by omega
              have HT := hide (any_take 255 tt j y hy)
              have HH := hide (any_hit 255 tt j y hy)
              clear hcc hy
              by_cases hy0 : y < 0
              . have HC : Hid ((7 : Int) = checkC (k, -1, n, ty, ar, tt, nm, pl)) := hide (by unfold checkC; rw [if_neg HF1.out, if_neg HF2.out, if_neg HF3.out, if_neg HF4.out, if_neg HF5.out, if_pos (HH.out (by simp [byd, hy0]))])
                clear HH HT
                go_wp2_with fail
                go_ret
                exact ⟨L5.ret_int HC.out, below_step B0.out HWt.out⟩
              . by_cases hy1 : 255 < y
                . have HC : Hid ((7 : Int) = checkC (k, -1, n, ty, ar, tt, nm, pl)) := hide (by unfold checkC; rw [if_neg HF1.out, if_neg HF2.out, if_neg HF3.out, if_neg HF4.out, if_neg HF5.out, if_pos (HH.out (by simp [byd, hy1]))])
                  clear HH HT
                  go_wp2_with fail
                  go_ret
                  exact ⟨L5.ret_int HC.out, below_step B0.out HWt.out⟩
                . have HT1 := hide (HT.out.trans (by rw [HA6.out]; simp [byd, hy0, hy1] : _ = false))
                  clear HH HT
                  go_wp2_with fail
                  go_roundw
                  case rel => exact ⟨j + 1, by omega, by go_num, HT1, HWt⟩
                  case measure => simp [intOf]; omega
            . obtain rfl : j = tt.length := by omega
              have HF6 : Hid (¬ (tt.any (byd 255) = true)) := hide (by have := HA6.out; rw [List.take_length] at this; rw [this]; simp)
              clear HA6 HA5
              have HC0 : Hid (namC k nm = checkC (k, -1, n, ty, ar, tt, nm, pl)) := hide (by unfold checkC; rw [if_neg HF1.out, if_neg HF2.out, if_neg HF3.out, if_neg HF4.out, if_neg HF5.out, if_neg HF6.out])
              by_cases h10 : k = 10
              . subst h10
                obtain ⟨a, b, hS⟩ := shp_form nm
                have HS := hide hS
                have HC : Hid (shpF nm = checkC (10, -1, n, ty, ar, tt, nm, pl)) := hide HC0.out
                clear hS HC0
                go_wp2_with fail
                refine (L3.refParse_all (bs nm) _).mono ?_; rintro e w9 ⟨rfl, b9⟩
                rw [HS.out]
                have B9 := hide (below_step HWt.out b9)
                clear b9
                generalize shpF nm = z at *
                go_wp2_with fail
                go_ret
                exact ⟨L5.ret_int HC.out, below_step B0.out (below_step B9.out (below_box w9 _))⟩
              . have e10 : (k == 10) = false := by simpa using h10
                by_cases h21 : k = 21
                . subst h21
                  have HC : Hid (∀ r, L2.nameB nm = r -> (if r then (0 : Int) else 4) = checkC (21, -1, n, ty, ar, tt, nm, pl)) := hide fun r h => by rw [<- HC0.out, <- h]; rfl
                  clear HC0 h10
                  go_wp2_with fail
                  refine (L2.rname_any (bs nm) _ HSZ.out).mono ?_; rintro e w9 ⟨rfl, hw9⟩
                  rw [hw9, bs_data]
                  clear hw9
                  cases hb : L2.nameB nm with
                  | true =>
                    have HC1 := hide (HC.out true hb)
                    go_wp2_with fail
                    go_ret
                    exact ⟨L5.ret_int HC1.out, below_step B0.out HWt.out⟩
                  | false =>
                    have HC1 := hide (HC.out false hb)
                    go_wp2_with fail
                    go_ret
                    exact ⟨L5.ret_int HC1.out, below_step B0.out HWt.out⟩
                . have e21 : (k == 21) = false := by simpa using h21
                  have n21 : (k != 21) = true := by rw [bne, e21]; rfl
                  have HCn : Hid ((if nm = [] then (0 : Int) else 4) = checkC (k, -1, n, ty, ar, tt, nm, pl)) := hide (by rw [<- HC0.out]; unfold namC; rw [if_neg h10, if_neg h21])
                  clear HC0 h10 h21
                  by_cases hnm : nm = []
                  . have HC1 := hide ((if_pos hnm).symm.trans HCn.out)
                    have hE : (bs nm).toList.isEmpty = true := by rw [nm_iff]; simpa using hnm
                    clear hnm HCn
                    go_wp2_with fail
                    go_ret
                    exact ⟨L5.ret_int HC1.out, below_step B0.out HWt.out⟩
                  . have HC1 := hide ((if_neg hnm).symm.trans HCn.out)
                    have hE : (bs nm).toList.isEmpty = false := by rw [nm_iff]; simpa using hnm
                    clear hnm HCn
                    go_wp2_with fail
                    go_ret
                    exact ⟨L5.ret_int HC1.out, below_step B0.out HWt.out⟩
    . have h5 : ¬ top < 0 := by omega
      have h6 : ¬ top < n := by omega
      have h7 : (k != 1) = false := by rw [h4]; rfl
      replace h4 := hide h4
      go_wp2_with fail
      clear c0 c1 c2 c3 c4 c5 c6 c7
      go_loopw [5] (fun i wr => ∃ j : Nat, j <= ar.length /\ i = .int .i64 j /\ Hid ((ar.take j).any (byd 1048576) = false) /\ Hid (Below W.heap.size W wr)) (fun i _ => ar.length - (intOf i).toNat)
      case atStart => exact ⟨0, Nat.zero_le _, rfl, hide rfl, B4⟩
      case round =>
        obtain ⟨j, hj, rfl, HA5, HWa⟩ := hrel
        obtain ⟨c0, c1, c2, c3, c4, c5, c6, c7⟩ := box8 ((HWa.out.block _ (by omega)).trans H0.out)
        by_cases hlt : j < ar.length
        . obtain ⟨y, hy⟩ : ∃ y, ar[j]? = some y := ⟨_, List.getElem?_eq_getElem hlt⟩
          rcases A0.out with he | ⟨g, o, rfl, hg, hcc⟩
          . subst he; simp at hlt
          have hcell := (HWa.out.cell (p := ⟨g, o + j, none⟩) hg).trans (hcc j y hy)
          have hlt' : (j : Int) < ar.length := by omega
          have HT := hide (any_take 1048576 ar j y hy)
          have HH := hide (any_hit 1048576 ar j y hy)
          clear hcc hy
          by_cases hy0 : y < 0
          . have HC : Hid ((8 : Int) = checkC (k, -1, n, ty, ar, tt, nm, pl)) := hide (by unfold checkC; rw [if_neg HF1.out, if_neg HF2.out, if_neg HF3.out, if_neg HF4.out, if_pos (HH.out (by simp [byd, hy0]))])
            clear HH HT
            go_wp2_with fail
            go_ret
            exact ⟨L5.ret_int HC.out, below_step B0.out HWa.out⟩
          . by_cases hy1 : 1048576 < y
            . have HC : Hid ((8 : Int) = checkC (k, -1, n, ty, ar, tt, nm, pl)) := hide (by unfold checkC; rw [if_neg HF1.out, if_neg HF2.out, if_neg HF3.out, if_neg HF4.out, if_pos (HH.out (by simp [byd, hy1]))])
              clear HH HT
              go_wp2_with fail
              go_ret
              exact ⟨L5.ret_int HC.out, below_step B0.out HWa.out⟩
            . have HT1 := hide (HT.out.trans (by rw [HA5.out]; simp [byd, hy0, hy1] : _ = false))
              clear HH HT
              go_wp2_with fail
              go_roundw
              case rel => exact ⟨j + 1, by omega, by go_num, HT1, HWa⟩
              case measure => simp [intOf]; omega
        . obtain rfl : j = ar.length := by omega
          have HF5 : Hid (¬ (ar.any (byd 1048576) = true)) := hide (by have := HA5.out; rw [List.take_length] at this; rw [this]; simp)
          go_wp2_with fail
          clear c0 c1 c2 c3 c4 c5 c6 c7
          go_loopw [6] (fun i wr => ∃ j : Nat, j <= tt.length /\ i = .int .i64 j /\ Hid ((tt.take j).any (byd 255) = false) /\ Hid (Below W.heap.size W wr)) (fun i _ => tt.length - (intOf i).toNat)
          case atStart => exact ⟨0, Nat.zero_le _, rfl, hide rfl, HWa⟩
          case round =>
            obtain ⟨j, hj, rfl, HA6, HWt⟩ := hrel
            obtain ⟨c0, c1, c2, c3, c4, c5, c6, c7⟩ := box8 ((HWt.out.block _ (by omega)).trans H0.out)
            by_cases hlt : j < tt.length
            . obtain ⟨y, hy⟩ : ∃ y, tt[j]? = some y := ⟨_, List.getElem?_eq_getElem hlt⟩
              rcases U0.out with he | ⟨g, o, rfl, hg, hcc⟩
              . subst he; simp at hlt
              have hcell := (HWt.out.cell (p := ⟨g, o + j, none⟩) hg).trans (hcc j y hy)
              have hlt' : (j : Int) < tt.length := by omega
              have HT := hide (any_take 255 tt j y hy)
              have HH := hide (any_hit 255 tt j y hy)
              clear hcc hy
              by_cases hy0 : y < 0
              . have HC : Hid ((7 : Int) = checkC (k, -1, n, ty, ar, tt, nm, pl)) := hide (by unfold checkC; rw [if_neg HF1.out, if_neg HF2.out, if_neg HF3.out, if_neg HF4.out, if_neg HF5.out, if_pos (HH.out (by simp [byd, hy0]))])
                clear HH HT
                go_wp2_with fail
                go_ret
                exact ⟨L5.ret_int HC.out, below_step B0.out HWt.out⟩
              . by_cases hy1 : 255 < y
                . have HC : Hid ((7 : Int) = checkC (k, -1, n, ty, ar, tt, nm, pl)) := hide (by unfold checkC; rw [if_neg HF1.out, if_neg HF2.out, if_neg HF3.out, if_neg HF4.out, if_neg HF5.out, if_pos (HH.out (by simp [byd, hy1]))])
                  clear HH HT
                  go_wp2_with fail
                  go_ret
                  exact ⟨L5.ret_int HC.out, below_step B0.out HWt.out⟩
                . have HT1 := hide (HT.out.trans (by rw [HA6.out]; simp [byd, hy0, hy1] : _ = false))
                  clear HH HT
                  go_wp2_with fail
                  go_roundw
                  case rel => exact ⟨j + 1, by omega, by go_num, HT1, HWt⟩
                  case measure => simp [intOf]; omega
            . obtain rfl : j = tt.length := by omega
              have HF6 : Hid (¬ (tt.any (byd 255) = true)) := hide (by have := HA6.out; rw [List.take_length] at this; rw [this]; simp)
              clear HA6 HA5
              have HC0 : Hid (namC k nm = checkC (k, -1, n, ty, ar, tt, nm, pl)) := hide (by unfold checkC; rw [if_neg HF1.out, if_neg HF2.out, if_neg HF3.out, if_neg HF4.out, if_neg HF5.out, if_neg HF6.out])
              by_cases h10 : k = 10
              . subst h10
                obtain ⟨a, b, hS⟩ := shp_form nm
                have HS := hide hS
                have HC : Hid (shpF nm = checkC (10, -1, n, ty, ar, tt, nm, pl)) := hide HC0.out
                clear hS HC0
                go_wp2_with fail
                refine (L3.refParse_all (bs nm) _).mono ?_; rintro e w9 ⟨rfl, b9⟩
                rw [HS.out]
                have B9 := hide (below_step HWt.out b9)
                clear b9
                generalize shpF nm = z at *
                go_wp2_with fail
                go_ret
                exact ⟨L5.ret_int HC.out, below_step B0.out (below_step B9.out (below_box w9 _))⟩
              . have e10 : (k == 10) = false := by simpa using h10
                by_cases h21 : k = 21
                . subst h21
                  have HC : Hid (∀ r, L2.nameB nm = r -> (if r then (0 : Int) else 4) = checkC (21, -1, n, ty, ar, tt, nm, pl)) := hide fun r h => by rw [<- HC0.out, <- h]; rfl
                  clear HC0 h10
                  go_wp2_with fail
                  refine (L2.rname_any (bs nm) _ HSZ.out).mono ?_; rintro e w9 ⟨rfl, hw9⟩
                  rw [hw9, bs_data]
                  clear hw9
                  cases hb : L2.nameB nm with
                  | true =>
                    have HC1 := hide (HC.out true hb)
                    go_wp2_with fail
                    go_ret
                    exact ⟨L5.ret_int HC1.out, below_step B0.out HWt.out⟩
                  | false =>
                    have HC1 := hide (HC.out false hb)
                    go_wp2_with fail
                    go_ret
                    exact ⟨L5.ret_int HC1.out, below_step B0.out HWt.out⟩
                . have e21 : (k == 21) = false := by simpa using h21
                  have n21 : (k != 21) = true := by rw [bne, e21]; rfl
                  have HCn : Hid ((if nm = [] then (0 : Int) else 4) = checkC (k, -1, n, ty, ar, tt, nm, pl)) := hide (by rw [<- HC0.out]; unfold namC; rw [if_neg h10, if_neg h21])
                  clear HC0 h10 h21
                  by_cases hnm : nm = []
                  . have HC1 := hide ((if_pos hnm).symm.trans HCn.out)
                    have hE : (bs nm).toList.isEmpty = true := by rw [nm_iff]; simpa using hnm
                    clear hnm HCn
                    go_wp2_with fail
                    go_ret
                    exact ⟨L5.ret_int HC1.out, below_step B0.out HWt.out⟩
                  . have HC1 := hide ((if_neg hnm).symm.trans HCn.out)
                    have hE : (bs nm).toList.isEmpty = false := by rw [nm_iff]; simpa using hnm
                    clear hnm HCn
                    go_wp2_with fail
                    go_ret
                    exact ⟨L5.ret_int HC1.out, below_step B0.out HWt.out⟩
  . have hq5 : (mk != 0) = true := by simpa using hq2
    go_wp2_with fail
    refine (rcounted_any k id n ty pl ar tt nm ao to ca ct _ HL.out).mono ?_; rintro e w3 ⟨rfl, b3⟩
    have B3 := hide (below_step B2.out b3)
    clear b3
    cases hc : cntOk k ar.length tt.length with
    | false =>
      have HC : Hid ((13 : Int) = checkC (k, id, n, ty, ar, tt, nm, pl)) := hide (by unfold checkC; rw [if_neg HF1.out, if_neg HF2.out, if_pos hc])
      replace hc := hide hc
      go_wp2_with fail
      go_ret
      exact ⟨L5.ret_int HC.out, below_step B0.out B3.out⟩
    | true =>
    have HF3 : Hid (¬ (cntOk k ar.length tt.length = false)) := hide (by rw [hc]; simp)
    replace hc := hide hc
    clear c0 c1 c2 c3 c4 c5 c6 c7
    obtain ⟨c0, c1, c2, c3, c4, c5, c6, c7⟩ := box8 ((B3.out.block _ (by omega)).trans H0.out)
    go_wp2_with fail
    refine (most_any k _).mono ?_; rintro e w4 ⟨rfl, hw4⟩
    rw [hw4]
    clear hw4
    have B4 := hide B3.out
    generalize mostN k = top at *
    rcases HRC.out with ⟨hr, hr1⟩ | ⟨hr, hr1⟩
    rotate_left
    . have HC : Hid ((18 : Int) = checkC (k, id, n, ty, ar, tt, nm, pl)) := hide (by unfold checkC; rw [if_neg HF1.out, if_neg HF2.out, if_neg HF3.out, if_pos hr])
      replace hr := hide hr
      clear HRC
      rcases hr1 with ⟨h1, h2⟩ | ⟨h1, h2⟩ | ⟨h1, h2, h3, h4⟩
      . have h5 : (n != 0) = true := by simpa using h2
        go_wp2_with fail
        go_ret
        exact ⟨L5.ret_int HC.out, below_step B0.out B4.out⟩
      . have h5 : ¬ top < 0 := by omega
        go_wp2_with fail
        go_ret
        exact ⟨L5.ret_int HC.out, below_step B0.out B4.out⟩
      . have h5 : ¬ top < 0 := by omega
        have h6 : ¬ top < n := by omega
        have h7 : (k != 1) = true := by simpa using h4
        go_wp2_with fail
        go_ret
        exact ⟨L5.ret_int HC.out, below_step B0.out B4.out⟩
    have HF4 : Hid (¬ (rngOk k n = false)) := hide (by rw [hr]; simp)
    replace hr := hide hr
    clear HRC
    rcases hr1 with ⟨h1, h2⟩ | ⟨h1, h2, h3⟩ | ⟨h1, h2, h3, h4⟩
    . have h5 : (n != 0) = false := by rw [h2]; rfl
      have h6 : ¬ 0 <= top := by omega
      replace h2 := hide h2
      clear c0 c1 c3 c4 c5 c6 c7
      obtain ⟨c0, c1, c2, c3, c4, c5, c6, c7⟩ := box8 ((B4.out.block _ (by omega)).trans H0.out)
      go_wp2_with fail
      clear c0 c1 c2 c3 c4 c5 c6 c7
      go_loopw [5] (fun i wr => ∃ j : Nat, j <= ar.length /\ i = .int .i64 j /\ Hid ((ar.take j).any (byd 1048576) = false) /\ Hid (Below W.heap.size W wr)) (fun i _ => ar.length - (intOf i).toNat)
      case atStart => exact ⟨0, Nat.zero_le _, rfl, hide rfl, B4⟩
      case round =>
        obtain ⟨j, hj, rfl, HA5, HWa⟩ := hrel
        obtain ⟨c0, c1, c2, c3, c4, c5, c6, c7⟩ := box8 ((HWa.out.block _ (by omega)).trans H0.out)
        by_cases hlt : j < ar.length
        . obtain ⟨y, hy⟩ : ∃ y, ar[j]? = some y := ⟨_, List.getElem?_eq_getElem hlt⟩
          rcases A0.out with he | ⟨g, o, rfl, hg, hcc⟩
          . subst he; simp at hlt
          have hcell := (HWa.out.cell (p := ⟨g, o + j, none⟩) hg).trans (hcc j y hy)
          have hlt' : (j : Int) < ar.length := by omega
          have HT := hide (any_take 1048576 ar j y hy)
          have HH := hide (any_hit 1048576 ar j y hy)
          clear hcc hy
          by_cases hy0 : y < 0
          . have HC : Hid ((8 : Int) = checkC (k, id, n, ty, ar, tt, nm, pl)) := hide (by unfold checkC; rw [if_neg HF1.out, if_neg HF2.out, if_neg HF3.out, if_neg HF4.out, if_pos (HH.out (by simp [byd, hy0]))])
            clear HH HT
            go_wp2_with fail
            go_ret
            exact ⟨L5.ret_int HC.out, below_step B0.out HWa.out⟩
          . by_cases hy1 : 1048576 < y
            . have HC : Hid ((8 : Int) = checkC (k, id, n, ty, ar, tt, nm, pl)) := hide (by unfold checkC; rw [if_neg HF1.out, if_neg HF2.out, if_neg HF3.out, if_neg HF4.out, if_pos (HH.out (by simp [byd, hy1]))])
              clear HH HT
              go_wp2_with fail
              go_ret
              exact ⟨L5.ret_int HC.out, below_step B0.out HWa.out⟩
            . have HT1 := hide (HT.out.trans (by rw [HA5.out]; simp [byd, hy0, hy1] : _ = false))
              clear HH HT
              go_wp2_with fail
              go_roundw
              case rel => exact ⟨j + 1, by omega, by go_num, HT1, HWa⟩
              case measure => simp [intOf]; omega
        . obtain rfl : j = ar.length := by omega
          have HF5 : Hid (¬ (ar.any (byd 1048576) = true)) := hide (by have := HA5.out; rw [List.take_length] at this; rw [this]; simp)
          go_wp2_with fail
          clear c0 c1 c2 c3 c4 c5 c6 c7
          go_loopw [6] (fun i wr => ∃ j : Nat, j <= tt.length /\ i = .int .i64 j /\ Hid ((tt.take j).any (byd 255) = false) /\ Hid (Below W.heap.size W wr)) (fun i _ => tt.length - (intOf i).toNat)
          case atStart => exact ⟨0, Nat.zero_le _, rfl, hide rfl, HWa⟩
          case round =>
            obtain ⟨j, hj, rfl, HA6, HWt⟩ := hrel
            obtain ⟨c0, c1, c2, c3, c4, c5, c6, c7⟩ := box8 ((HWt.out.block _ (by omega)).trans H0.out)
            by_cases hlt : j < tt.length
            . obtain ⟨y, hy⟩ : ∃ y, tt[j]? = some y := ⟨_, List.getElem?_eq_getElem hlt⟩
              rcases U0.out with he | ⟨g, o, rfl, hg, hcc⟩
              . subst he; simp at hlt
              have hcell := (HWt.out.cell (p := ⟨g, o + j, none⟩) hg).trans (hcc j y hy)
              have hlt' : (j : Int) < tt.length := by omega
              have HT := hide (any_take 255 tt j y hy)
              have HH := hide (any_hit 255 tt j y hy)
              clear hcc hy
              by_cases hy0 : y < 0
              . have HC : Hid ((7 : Int) = checkC (k, id, n, ty, ar, tt, nm, pl)) := hide (by unfold checkC; rw [if_neg HF1.out, if_neg HF2.out, if_neg HF3.out, if_neg HF4.out, if_neg HF5.out, if_pos (HH.out (by simp [byd, hy0]))])
                clear HH HT
                go_wp2_with fail
                go_ret
                exact ⟨L5.ret_int HC.out, below_step B0.out HWt.out⟩
              . by_cases hy1 : 255 < y
                . have HC : Hid ((7 : Int) = checkC (k, id, n, ty, ar, tt, nm, pl)) := hide (by unfold checkC; rw [if_neg HF1.out, if_neg HF2.out, if_neg HF3.out, if_neg HF4.out, if_neg HF5.out, if_pos (HH.out (by simp [byd, hy1]))])
                  clear HH HT
                  go_wp2_with fail
                  go_ret
                  exact ⟨L5.ret_int HC.out, below_step B0.out HWt.out⟩
                . have HT1 := hide (HT.out.trans (by rw [HA6.out]; simp [byd, hy0, hy1] : _ = false))
                  clear HH HT
                  go_wp2_with fail
                  go_roundw
                  case rel => exact ⟨j + 1, by omega, by go_num, HT1, HWt⟩
                  case measure => simp [intOf]; omega
            . obtain rfl : j = tt.length := by omega
              have HF6 : Hid (¬ (tt.any (byd 255) = true)) := hide (by have := HA6.out; rw [List.take_length] at this; rw [this]; simp)
              clear HA6 HA5
              have HC0 : Hid (namC k nm = checkC (k, id, n, ty, ar, tt, nm, pl)) := hide (by unfold checkC; rw [if_neg HF1.out, if_neg HF2.out, if_neg HF3.out, if_neg HF4.out, if_neg HF5.out, if_neg HF6.out])
              by_cases h10 : k = 10
              . subst h10
                obtain ⟨a, b, hS⟩ := shp_form nm
                have HS := hide hS
                have HC : Hid (shpF nm = checkC (10, id, n, ty, ar, tt, nm, pl)) := hide HC0.out
                clear hS HC0
                go_wp2_with fail
                refine (L3.refParse_all (bs nm) _).mono ?_; rintro e w9 ⟨rfl, b9⟩
                rw [HS.out]
                have B9 := hide (below_step HWt.out b9)
                clear b9
                generalize shpF nm = z at *
                go_wp2_with fail
                go_ret
                exact ⟨L5.ret_int HC.out, below_step B0.out (below_step B9.out (below_box w9 _))⟩
              . have e10 : (k == 10) = false := by simpa using h10
                by_cases h21 : k = 21
                . subst h21
                  have HC : Hid (∀ r, L2.nameB nm = r -> (if r then (0 : Int) else 4) = checkC (21, id, n, ty, ar, tt, nm, pl)) := hide fun r h => by rw [<- HC0.out, <- h]; rfl
                  clear HC0 h10
                  go_wp2_with fail
                  refine (L2.rname_any (bs nm) _ HSZ.out).mono ?_; rintro e w9 ⟨rfl, hw9⟩
                  rw [hw9, bs_data]
                  clear hw9
                  cases hb : L2.nameB nm with
                  | true =>
                    have HC1 := hide (HC.out true hb)
                    go_wp2_with fail
                    go_ret
                    exact ⟨L5.ret_int HC1.out, below_step B0.out HWt.out⟩
                  | false =>
                    have HC1 := hide (HC.out false hb)
                    go_wp2_with fail
                    go_ret
                    exact ⟨L5.ret_int HC1.out, below_step B0.out HWt.out⟩
                . have e21 : (k == 21) = false := by simpa using h21
                  have n21 : (k != 21) = true := by rw [bne, e21]; rfl
                  have HCn : Hid ((if nm = [] then (0 : Int) else 4) = checkC (k, id, n, ty, ar, tt, nm, pl)) := hide (by rw [<- HC0.out]; unfold namC; rw [if_neg h10, if_neg h21])
                  clear HC0 h10 h21
                  by_cases hnm : nm = []
                  . have HC1 := hide ((if_pos hnm).symm.trans HCn.out)
                    have hE : (bs nm).toList.isEmpty = true := by rw [nm_iff]; simpa using hnm
                    clear hnm HCn
                    go_wp2_with fail
                    go_ret
                    exact ⟨L5.ret_int HC1.out, below_step B0.out HWt.out⟩
                  . have HC1 := hide ((if_neg hnm).symm.trans HCn.out)
                    have hE : (bs nm).toList.isEmpty = false := by rw [nm_iff]; simpa using hnm
                    clear hnm HCn
                    go_wp2_with fail
                    go_ret
                    exact ⟨L5.ret_int HC1.out, below_step B0.out HWt.out⟩
    . have h5 : ¬ top < 0 := by omega
      have h6 : ¬ top < n := by omega
      have h7 : ¬ n < 0 := by omega
      go_wp2_with fail
      clear c0 c1 c2 c3 c4 c5 c6 c7
      go_loopw [5] (fun i wr => ∃ j : Nat, j <= ar.length /\ i = .int .i64 j /\ Hid ((ar.take j).any (byd 1048576) = false) /\ Hid (Below W.heap.size W wr)) (fun i _ => ar.length - (intOf i).toNat)
      case atStart => exact ⟨0, Nat.zero_le _, rfl, hide rfl, B4⟩
      case round =>
        obtain ⟨j, hj, rfl, HA5, HWa⟩ := hrel
        obtain ⟨c0, c1, c2, c3, c4, c5, c6, c7⟩ := box8 ((HWa.out.block _ (by omega)).trans H0.out)
        by_cases hlt : j < ar.length
        . obtain ⟨y, hy⟩ : ∃ y, ar[j]? = some y := ⟨_, List.getElem?_eq_getElem hlt⟩
          rcases A0.out with he | ⟨g, o, rfl, hg, hcc⟩
          . subst he; simp at hlt
          have hcell := (HWa.out.cell (p := ⟨g, o + j, none⟩) hg).trans (hcc j y hy)
          have hlt' : (j : Int) < ar.length := by omega
          have HT := hide (any_take 1048576 ar j y hy)
          have HH := hide (any_hit 1048576 ar j y hy)
          clear hcc hy
          by_cases hy0 : y < 0
          . have HC : Hid ((8 : Int) = checkC (k, id, n, ty, ar, tt, nm, pl)) := hide (by unfold checkC; rw [if_neg HF1.out, if_neg HF2.out, if_neg HF3.out, if_neg HF4.out, if_pos (HH.out (by simp [byd, hy0]))])
            clear HH HT
            go_wp2_with fail
            go_ret
            exact ⟨L5.ret_int HC.out, below_step B0.out HWa.out⟩
          . by_cases hy1 : 1048576 < y
            . have HC : Hid ((8 : Int) = checkC (k, id, n, ty, ar, tt, nm, pl)) := hide (by unfold checkC; rw [if_neg HF1.out, if_neg HF2.out, if_neg HF3.out, if_neg HF4.out, if_pos (HH.out (by simp [byd, hy1]))])
              clear HH HT
              go_wp2_with fail
              go_ret
              exact ⟨L5.ret_int HC.out, below_step B0.out HWa.out⟩
            . have HT1 := hide (HT.out.trans (by rw [HA5.out]; simp [byd, hy0, hy1] : _ = false))
              clear HH HT
              go_wp2_with fail
              go_roundw
              case rel => exact ⟨j + 1, by omega, by go_num, HT1, HWa⟩
              case measure => simp [intOf]; omega
        . obtain rfl : j = ar.length := by omega
          have HF5 : Hid (¬ (ar.any (byd 1048576) = true)) := hide (by have := HA5.out; rw [List.take_length] at this; rw [this]; simp)
          go_wp2_with fail
          clear c0 c1 c2 c3 c4 c5 c6 c7
          go_loopw [6] (fun i wr => ∃ j : Nat, j <= tt.length /\ i = .int .i64 j /\ Hid ((tt.take j).any (byd 255) = false) /\ Hid (Below W.heap.size W wr)) (fun i _ => tt.length - (intOf i).toNat)
          case atStart => exact ⟨0, Nat.zero_le _, rfl, hide rfl, HWa⟩
          case round =>
            obtain ⟨j, hj, rfl, HA6, HWt⟩ := hrel
            obtain ⟨c0, c1, c2, c3, c4, c5, c6, c7⟩ := box8 ((HWt.out.block _ (by omega)).trans H0.out)
            by_cases hlt : j < tt.length
            . obtain ⟨y, hy⟩ : ∃ y, tt[j]? = some y := ⟨_, List.getElem?_eq_getElem hlt⟩
              rcases U0.out with he | ⟨g, o, rfl, hg, hcc⟩
              . subst he; simp at hlt
              have hcell := (HWt.out.cell (p := ⟨g, o + j, none⟩) hg).trans (hcc j y hy)
              have hlt' : (j : Int) < tt.length := by omega
              have HT := hide (any_take 255 tt j y hy)
              have HH := hide (any_hit 255 tt j y hy)
              clear hcc hy
              by_cases hy0 : y < 0
              . have HC : Hid ((7 : Int) = checkC (k, id, n, ty, ar, tt, nm, pl)) := hide (by unfold checkC; rw [if_neg HF1.out, if_neg HF2.out, if_neg HF3.out, if_neg HF4.out, if_neg HF5.out, if_pos (HH.out (by simp [byd, hy0]))])
                clear HH HT
                go_wp2_with fail
                go_ret
                exact ⟨L5.ret_int HC.out, below_step B0.out HWt.out⟩
              . by_cases hy1 : 255 < y
                . have HC : Hid ((7 : Int) = checkC (k, id, n, ty, ar, tt, nm, pl)) := hide (by unfold checkC; rw [if_neg HF1.out, if_neg HF2.out, if_neg HF3.out, if_neg HF4.out, if_neg HF5.out, if_pos (HH.out (by simp [byd, hy1]))])
                  clear HH HT
                  go_wp2_with fail
                  go_ret
                  exact ⟨L5.ret_int HC.out, below_step B0.out HWt.out⟩
                . have HT1 := hide (HT.out.trans (by rw [HA6.out]; simp [byd, hy0, hy1] : _ = false))
                  clear HH HT
                  go_wp2_with fail
                  go_roundw
                  case rel => exact ⟨j + 1, by omega, by go_num, HT1, HWt⟩
                  case measure => simp [intOf]; omega
            . obtain rfl : j = tt.length := by omega
              have HF6 : Hid (¬ (tt.any (byd 255) = true)) := hide (by have := HA6.out; rw [List.take_length] at this; rw [this]; simp)
              clear HA6 HA5
              have HC0 : Hid (namC k nm = checkC (k, id, n, ty, ar, tt, nm, pl)) := hide (by unfold checkC; rw [if_neg HF1.out, if_neg HF2.out, if_neg HF3.out, if_neg HF4.out, if_neg HF5.out, if_neg HF6.out])
              by_cases h10 : k = 10
              . subst h10
                obtain ⟨a, b, hS⟩ := shp_form nm
                have HS := hide hS
                have HC : Hid (shpF nm = checkC (10, id, n, ty, ar, tt, nm, pl)) := hide HC0.out
                clear hS HC0
                go_wp2_with fail
                refine (L3.refParse_all (bs nm) _).mono ?_; rintro e w9 ⟨rfl, b9⟩
                rw [HS.out]
                have B9 := hide (below_step HWt.out b9)
                clear b9
                generalize shpF nm = z at *
                go_wp2_with fail
                go_ret
                exact ⟨L5.ret_int HC.out, below_step B0.out (below_step B9.out (below_box w9 _))⟩
              . have e10 : (k == 10) = false := by simpa using h10
                by_cases h21 : k = 21
                . subst h21
                  have HC : Hid (∀ r, L2.nameB nm = r -> (if r then (0 : Int) else 4) = checkC (21, id, n, ty, ar, tt, nm, pl)) := hide fun r h => by rw [<- HC0.out, <- h]; rfl
                  clear HC0 h10
                  go_wp2_with fail
                  refine (L2.rname_any (bs nm) _ HSZ.out).mono ?_; rintro e w9 ⟨rfl, hw9⟩
                  rw [hw9, bs_data]
                  clear hw9
                  cases hb : L2.nameB nm with
                  | true =>
                    have HC1 := hide (HC.out true hb)
                    go_wp2_with fail
                    go_ret
                    exact ⟨L5.ret_int HC1.out, below_step B0.out HWt.out⟩
                  | false =>
                    have HC1 := hide (HC.out false hb)
                    go_wp2_with fail
                    go_ret
                    exact ⟨L5.ret_int HC1.out, below_step B0.out HWt.out⟩
                . have e21 : (k == 21) = false := by simpa using h21
                  have n21 : (k != 21) = true := by rw [bne, e21]; rfl
                  have HCn : Hid ((if nm = [] then (0 : Int) else 4) = checkC (k, id, n, ty, ar, tt, nm, pl)) := hide (by rw [<- HC0.out]; unfold namC; rw [if_neg h10, if_neg h21])
                  clear HC0 h10 h21
                  by_cases hnm : nm = []
                  . have HC1 := hide ((if_pos hnm).symm.trans HCn.out)
                    have hE : (bs nm).toList.isEmpty = true := by rw [nm_iff]; simpa using hnm
                    clear hnm HCn
                    go_wp2_with fail
                    go_ret
                    exact ⟨L5.ret_int HC1.out, below_step B0.out HWt.out⟩
                  . have HC1 := hide ((if_neg hnm).symm.trans HCn.out)
                    have hE : (bs nm).toList.isEmpty = false := by rw [nm_iff]; simpa using hnm
                    clear hnm HCn
                    go_wp2_with fail
                    go_ret
                    exact ⟨L5.ret_int HC1.out, below_step B0.out HWt.out⟩
    . have h5 : ¬ top < 0 := by omega
      have h6 : ¬ top < n := by omega
      have h7 : (k != 1) = false := by rw [h4]; rfl
      replace h4 := hide h4
      go_wp2_with fail
      clear c0 c1 c2 c3 c4 c5 c6 c7
      go_loopw [5] (fun i wr => ∃ j : Nat, j <= ar.length /\ i = .int .i64 j /\ Hid ((ar.take j).any (byd 1048576) = false) /\ Hid (Below W.heap.size W wr)) (fun i _ => ar.length - (intOf i).toNat)
      case atStart => exact ⟨0, Nat.zero_le _, rfl, hide rfl, B4⟩
      case round =>
        obtain ⟨j, hj, rfl, HA5, HWa⟩ := hrel
        obtain ⟨c0, c1, c2, c3, c4, c5, c6, c7⟩ := box8 ((HWa.out.block _ (by omega)).trans H0.out)
        by_cases hlt : j < ar.length
        . obtain ⟨y, hy⟩ : ∃ y, ar[j]? = some y := ⟨_, List.getElem?_eq_getElem hlt⟩
          rcases A0.out with he | ⟨g, o, rfl, hg, hcc⟩
          . subst he; simp at hlt
          have hcell := (HWa.out.cell (p := ⟨g, o + j, none⟩) hg).trans (hcc j y hy)
          have hlt' : (j : Int) < ar.length := by omega
          have HT := hide (any_take 1048576 ar j y hy)
          have HH := hide (any_hit 1048576 ar j y hy)
          clear hcc hy
          by_cases hy0 : y < 0
          . have HC : Hid ((8 : Int) = checkC (k, id, n, ty, ar, tt, nm, pl)) := hide (by unfold checkC; rw [if_neg HF1.out, if_neg HF2.out, if_neg HF3.out, if_neg HF4.out, if_pos (HH.out (by simp [byd, hy0]))])
            clear HH HT
            go_wp2_with fail
            go_ret
            exact ⟨L5.ret_int HC.out, below_step B0.out HWa.out⟩
          . by_cases hy1 : 1048576 < y
            . have HC : Hid ((8 : Int) = checkC (k, id, n, ty, ar, tt, nm, pl)) := hide (by unfold checkC; rw [if_neg HF1.out, if_neg HF2.out, if_neg HF3.out, if_neg HF4.out, if_pos (HH.out (by simp [byd, hy1]))])
              clear HH HT
              go_wp2_with fail
              go_ret
              exact ⟨L5.ret_int HC.out, below_step B0.out HWa.out⟩
            . have HT1 := hide (HT.out.trans (by rw [HA5.out]; simp [byd, hy0, hy1] : _ = false))
              clear HH HT
              go_wp2_with fail
              go_roundw
              case rel => exact ⟨j + 1, by omega, by go_num, HT1, HWa⟩
              case measure => simp [intOf]; omega
        . obtain rfl : j = ar.length := by omega
          have HF5 : Hid (¬ (ar.any (byd 1048576) = true)) := hide (by have := HA5.out; rw [List.take_length] at this; rw [this]; simp)
          go_wp2_with fail
          clear c0 c1 c2 c3 c4 c5 c6 c7
          go_loopw [6] (fun i wr => ∃ j : Nat, j <= tt.length /\ i = .int .i64 j /\ Hid ((tt.take j).any (byd 255) = false) /\ Hid (Below W.heap.size W wr)) (fun i _ => tt.length - (intOf i).toNat)
          case atStart => exact ⟨0, Nat.zero_le _, rfl, hide rfl, HWa⟩
          case round =>
            obtain ⟨j, hj, rfl, HA6, HWt⟩ := hrel
            obtain ⟨c0, c1, c2, c3, c4, c5, c6, c7⟩ := box8 ((HWt.out.block _ (by omega)).trans H0.out)
            by_cases hlt : j < tt.length
            . obtain ⟨y, hy⟩ : ∃ y, tt[j]? = some y := ⟨_, List.getElem?_eq_getElem hlt⟩
              rcases U0.out with he | ⟨g, o, rfl, hg, hcc⟩
              . subst he; simp at hlt
              have hcell := (HWt.out.cell (p := ⟨g, o + j, none⟩) hg).trans (hcc j y hy)
              have hlt' : (j : Int) < tt.length := by omega
              have HT := hide (any_take 255 tt j y hy)
              have HH := hide (any_hit 255 tt j y hy)
              clear hcc hy
              by_cases hy0 : y < 0
              . have HC : Hid ((7 : Int) = checkC (k, id, n, ty, ar, tt, nm, pl)) := hide (by unfold checkC; rw [if_neg HF1.out, if_neg HF2.out, if_neg HF3.out, if_neg HF4.out, if_neg HF5.out, if_pos (HH.out (by simp [byd, hy0]))])
                clear HH HT
                go_wp2_with fail
                go_ret
                exact ⟨L5.ret_int HC.out, below_step B0.out HWt.out⟩
              . by_cases hy1 : 255 < y
                . have HC : Hid ((7 : Int) = checkC (k, id, n, ty, ar, tt, nm, pl)) := hide (by unfold checkC; rw [if_neg HF1.out, if_neg HF2.out, if_neg HF3.out, if_neg HF4.out, if_neg HF5.out, if_pos (HH.out (by simp [byd, hy1]))])
                  clear HH HT
                  go_wp2_with fail
                  go_ret
                  exact ⟨L5.ret_int HC.out, below_step B0.out HWt.out⟩
                . have HT1 := hide (HT.out.trans (by rw [HA6.out]; simp [byd, hy0, hy1] : _ = false))
                  clear HH HT
                  go_wp2_with fail
                  go_roundw
                  case rel => exact ⟨j + 1, by omega, by go_num, HT1, HWt⟩
                  case measure => simp [intOf]; omega
            . obtain rfl : j = tt.length := by omega
              have HF6 : Hid (¬ (tt.any (byd 255) = true)) := hide (by have := HA6.out; rw [List.take_length] at this; rw [this]; simp)
              clear HA6 HA5
              have HC0 : Hid (namC k nm = checkC (k, id, n, ty, ar, tt, nm, pl)) := hide (by unfold checkC; rw [if_neg HF1.out, if_neg HF2.out, if_neg HF3.out, if_neg HF4.out, if_neg HF5.out, if_neg HF6.out])
              by_cases h10 : k = 10
              . subst h10
                obtain ⟨a, b, hS⟩ := shp_form nm
                have HS := hide hS
                have HC : Hid (shpF nm = checkC (10, id, n, ty, ar, tt, nm, pl)) := hide HC0.out
                clear hS HC0
                go_wp2_with fail
                refine (L3.refParse_all (bs nm) _).mono ?_; rintro e w9 ⟨rfl, b9⟩
                rw [HS.out]
                have B9 := hide (below_step HWt.out b9)
                clear b9
                generalize shpF nm = z at *
                go_wp2_with fail
                go_ret
                exact ⟨L5.ret_int HC.out, below_step B0.out (below_step B9.out (below_box w9 _))⟩
              . have e10 : (k == 10) = false := by simpa using h10
                by_cases h21 : k = 21
                . subst h21
                  have HC : Hid (∀ r, L2.nameB nm = r -> (if r then (0 : Int) else 4) = checkC (21, id, n, ty, ar, tt, nm, pl)) := hide fun r h => by rw [<- HC0.out, <- h]; rfl
                  clear HC0 h10
                  go_wp2_with fail
                  refine (L2.rname_any (bs nm) _ HSZ.out).mono ?_; rintro e w9 ⟨rfl, hw9⟩
                  rw [hw9, bs_data]
                  clear hw9
                  cases hb : L2.nameB nm with
                  | true =>
                    have HC1 := hide (HC.out true hb)
                    go_wp2_with fail
                    go_ret
                    exact ⟨L5.ret_int HC1.out, below_step B0.out HWt.out⟩
                  | false =>
                    have HC1 := hide (HC.out false hb)
                    go_wp2_with fail
                    go_ret
                    exact ⟨L5.ret_int HC1.out, below_step B0.out HWt.out⟩
                . have e21 : (k == 21) = false := by simpa using h21
                  have n21 : (k != 21) = true := by rw [bne, e21]; rfl
                  have HCn : Hid ((if nm = [] then (0 : Int) else 4) = checkC (k, id, n, ty, ar, tt, nm, pl)) := hide (by rw [<- HC0.out]; unfold namC; rw [if_neg h10, if_neg h21])
                  clear HC0 h10 h21
                  by_cases hnm : nm = []
                  . have HC1 := hide ((if_pos hnm).symm.trans HCn.out)
                    have hE : (bs nm).toList.isEmpty = true := by rw [nm_iff]; simpa using hnm
                    clear hnm HCn
                    go_wp2_with fail
                    go_ret
                    exact ⟨L5.ret_int HC1.out, below_step B0.out HWt.out⟩
                  . have HC1 := hide ((if_neg hnm).symm.trans HCn.out)
                    have hE : (bs nm).toList.isEmpty = false := by rw [nm_iff]; simpa using hnm
                    clear hnm HCn
                    go_wp2_with fail
                    go_ret
                    exact ⟨L5.ret_int HC1.out, below_step B0.out HWt.out⟩
theorem rcheck_any (x : Ins) (v : Value) (w : World) (h : InsV w x v) (hn : I64 x.2.2.1) (hl : x.2.2.2.2.2.2.1.length <= maxLen) : Calls Tryz.prog 17 #[v] w fun e w' => e = .returned (.int .i64 (checkC x)) /\ Below w.heap.size w w' := by
  obtain ⟨k, id, n, ty, ar, tt, nm, pl⟩ := x
  obtain ⟨ao, to, ca, ct, rfl, h1, h2, h3, h4, h5, h6⟩ := h
  exact rcheck_try k id n ty pl ar tt nm ao to ca ct w h1 h2 ⟨Nat.le_trans h3 h4, Nat.le_trans h5 h6⟩ hn hl
end Go.Proofs.YtahhbckccdigoaaGreatDoor
