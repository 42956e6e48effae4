/- Layer 7, the reference: an instruction as a text: phis. -/
import Derived.Test.YtahhbckccdigoaaGreatDoorMbAW
import Derived.Test.YtahhbckccdigoaaGreatDoorMbAY
import Derived.Test.YtahhbckccdigoaaGreatDoorMbBA
import Derived.Test.YtahhbckccdigoaaGreatDoorMbBB
import Derived.Test.YtahhbckccdigoaaGreatDoorMbBC
import Derived.Test.YtahhbckccdigoaaGreatDoorMbBD
import Derived.Test.YtahhbckccdigoaaGreatDoorMbBE
import Derived.Test.YtahhbckccdigoaaGreatDoorMbBF
set_option maxHeartbeats 8000000
set_option maxRecDepth 20000
namespace Go.Proofs.YtahhbckccdigoaaGreatDoor
open Go Go.RowKit
open G (Tok Er Ins Fun)
theorem rins_phi (id n ty pl : Int) (ar tt : List Int) (nm : List UInt8) (ao to : Option Addr) (ca ct : Nat) (w : World) (hs1 : Sl w ao ar) (hs2 : Sl w to tt) (hF : Fin7 (20, id, n, ty, ar, tt, nm, pl)) :
    Calls Tryz.prog 13 #[.agg #[.int .i64 20, .int .i64 id, .int .i64 n, .int .i64 ty, .slice ao ar.length ca, .slice to tt.length ct, .string (bs nm), .int .i64 pl]] w fun e w' => e = .returned (.string (bs (preT (20, id, n, ty, ar, tt, nm, pl) ++ sp ((tt.zip ar).flatMap pairW)))) /\ Below w.heap.size w w' := by
  have hph := hide ((hF.2.2.2.2.2.2.2.2 rfl).1)
  dsimp only at hph
  have b0 := below_box w (o8 20 id n ty pl ao to ar.length tt.length ca ct nm)
  have H0 := hide (heap_alloc_new w (o8 20 id n ty pl ao to ar.length tt.length ca ct nm))
  have A0 := hide (hs1.below b0)
  have U0 := hide (hs2.below b0)
  have hz0 : (w.alloc (o8 20 id n ty pl ao to ar.length tt.length ca ct nm)).heap.size > w.heap.size := by simp
  have B0 := hide b0
  obtain ⟨iId, iN, iA, iT, lA, lT, lN, hq1, hq2⟩ := hF
  clear hq1 hq2
  dsimp only at iId iN iA iT lA lT lN
  have IA := hide iA
  have IT := hide iT
  have PN := hide (pre_no (x := (20, id, n, ty, ar, tt, nm, pl)))
  have PY := hide (pre_yes (x := (20, id, n, ty, ar, tt, nm, pl)))
  have hiw := iword_size 20 ty
  have hnz : (bs nm).size <= 1000 := by rw [bs_size]; exact lN
  clear b0 hs1 hs2 iA iT
  go_enter Tryz.func13, Tryz.ntmps13
  go_upto_region 1 with fail
  show Code.wp _ _ _ _ (w.alloc (o8 20 id n ty pl ao to ar.length tt.length ca ct nm))
  generalize w.alloc (o8 20 id n ty pl ao to ar.length tt.length ca ct nm) = W at *
  obtain ⟨c0, c1, c2, c3, c4, c5, c6, c7⟩ := box8 H0.out
  go_wp2_with fail
  refine (rword_w 20 ty _ _ _ _ _ _ W).mono ?_; rintro e w1 ⟨rfl, b1⟩
  have B1 := hide b1
  clear c0 c1 c2 c3 c4 c5 c6 c7 b1
  obtain ⟨c0, c1, c2, c3, c4, c5, c6, c7⟩ := box8 ((B1.out.block _ (by omega)).trans H0.out)
  obtain ⟨s0, hs0⟩ : ∃ s0, s0 = L5.iword 20 ty := ⟨_, rfl⟩
  rw [<- hs0] at hiw ⊢
  have HS0 := hide hs0
  clear hs0
  go_wp2_with fail
  refine (L5.refMakes_any 20 ty _ _ _ _ _ _ w1).mono ?_; rintro e w2 ⟨rfl, b2⟩
  have B2 := hide (below_step B1.out b2)
  clear c0 c1 c2 c3 c4 c5 c6 c7 b2
  obtain ⟨c0, c1, c2, c3, c4, c5, c6, c7⟩ := box8 ((B2.out.block _ (by omega)).trans H0.out)
  by_cases hmk : L5.imakes 20 ty = 0
  . have RT : Hid (RTail W w2 s0 (preT (20, id, n, ty, ar, tt, nm, pl))) := hide ⟨B2.out, by rw [HS0.out]; exact PN.out hmk, by omega⟩
    rw [hmk]
    clear hmk PN PY HS0 B1 B2
    obtain ⟨wq, hwq⟩ : ∃ wq, wq = w2 := ⟨_, rfl⟩
    rw [<- hwq] at RT c0 c1 c2 c3 c4 c5 c6 c7 ⊢
    clear hwq
    have hz := RT.out.2.2
    have he1 : tt.length <= ar.length := by have := hph.out; omega
    have h98 : (⟨#[32, 98]⟩ : ByteArray) = bs [32, 98] := rfl
    have h98s : (bs [32, 98]).size = 2 := rfl
    have h37 : (⟨#[32, 37]⟩ : ByteArray) = bs [32, 37] := rfl
    have h37s : (bs [32, 37]).size = 2 := rfl
    have HZT : Hid (∀ j, (sp (((tt.zip ar).take j).flatMap pairW)).length <= 46000) := hide fun j => by
      have h1 := sp_len (((tt.zip ar).take j).flatMap pairW) 22 fun x hx => by
        rw [List.mem_flatMap] at hx
        obtain ⟨⟨a, b⟩, hq, hs⟩ := hx
        have ha := List.of_mem_zip (List.mem_of_mem_take hq)
        simp [pairW] at hs
        rcases hs with rfl | rfl
        . exact lab_len (IT.out a ha.1)
        . exact val_len (IA.out b ha.2)
      have h2 : (((tt.zip ar).take j).flatMap pairW).length <= 2000 := by
        rw [List.length_flatMap]
        have : ((tt.zip ar).take j).map (fun a => (pairW a).length) = ((tt.zip ar).take j).map (fun _ => 2) := rfl
        rw [this, List.map_const', List.sum_replicate_nat]
        simp
        omega
      have h3 : (((tt.zip ar).take j).flatMap pairW).length * (22 + 1) <= 2000 * 23 := Nat.mul_le_mul h2 (Nat.le_refl _)
      omega
    have HZ : Hid (∀ j x y, tt[j]? = some x -> ar[j]? = some y -> sp (((tt.zip ar).take (j + 1)).flatMap pairW) = sp (((tt.zip ar).take j).flatMap pairW) ++ [32, 98] ++ dig x ++ [32, 37] ++ dig y) := hide fun j x y hx hy => by
      rw [List.take_add_one, (List.getElem?_zip_eq_some (z := (x, y))).2 ⟨hx, hy⟩]
      simp [pairW, sp, labW, valW]
    have HPL : Hid ((preT (20, id, n, ty, ar, tt, nm, pl)).length <= 60) := hide (by
      have h2 := congrArg ByteArray.size RT.out.2.1
      rw [bs_size] at h2
      omega)
    have HB6 := hide RT.out.1
    have HS6 := hide RT.out.2.1
    clear RT c1 c2 c3 c6 c7
    go_wp2_with fail
    clear c0 c4 c5
    go_loopw [3, 4] (fun s i wr => ∃ (j : Nat) (b : ByteArray), j <= tt.length /\ i = .int .i64 j /\ s = .string b /\ Hid (b = bs (preT (20, id, n, ty, ar, tt, nm, pl) ++ sp (((tt.zip ar).take j).flatMap pairW))) /\ Hid (Below W.heap.size W wr)) (fun _ i _ => tt.length - (intOf i).toNat)
    case atStart => exact ⟨0, _, Nat.zero_le _, rfl, rfl, hide (by rw [HS6.out]; simp [sp]), HB6⟩
    case round =>
      obtain ⟨j, b, hj, rfl, rfl, HBB, HW⟩ := hrel
      have hbz : b.size <= 46060 := by rw [HBB.out, bs_size, List.length_append]; have := HZT.out j; have := HPL.out; omega
      obtain ⟨c0, c1, c2, c3, c4, c5, c6, c7⟩ := box8 ((HW.out.block _ (by omega)).trans H0.out)
      clear c0 c1 c2 c3 c6 c7
      have hcl : w.heap.size < wr.heap.size := Nat.lt_of_lt_of_le hz0 HW.out.size
      by_cases hlt : j < tt.length
      . obtain ⟨x, hx⟩ : ∃ x, tt[j]? = some x := ⟨_, List.getElem?_eq_getElem hlt⟩
        obtain ⟨y, hy⟩ : ∃ y, ar[j]? = some y := ⟨_, List.getElem?_eq_getElem (by omega)⟩
        rcases U0.out with he | ⟨g, o, rfl, hg, hc⟩
        . subst he; simp at hlt
        rcases A0.out with he | ⟨g2, o2, rfl, hg2, hc2⟩
        . subst he; simp at hy
        have iX : I64 x := IT.out x (List.mem_of_getElem? hx)
        have iY : I64 y := IA.out y (List.mem_of_getElem? hy)
        have e1 := (HW.out.cell (p := ⟨g, o + j, none⟩) hg).trans (hc j x hx)
        have e2 := (HW.out.cell (p := ⟨g2, o2 + j, none⟩) hg2).trans (hc2 j y hy)
        have hgr : g < wr.heap.size := Nat.lt_of_lt_of_le hg HW.out.size
        have hgr2 : g2 < wr.heap.size := Nat.lt_of_lt_of_le hg2 HW.out.size
        have hlt' : (j : Int) < tt.length := by omega
        have hlt2 : (j : Int) < ar.length := by omega
        have hj0 : (0 : Int) <= j := by omega
        obtain ⟨sx, hsx⟩ : ∃ sx, sx = bs (dig x) := ⟨_, rfl⟩
        obtain ⟨sy, hsy⟩ : ∃ sy, sy = bs (dig y) := ⟨_, rfl⟩
        have zx : sx.size <= 21 := by rw [hsx, bs_size]; exact dig_len iX
        have zy : sy.size <= 21 := by rw [hsy, bs_size]; exact dig_len iY
        have CX : Hid (∀ w', Calls Tryz.prog 30 #[.int .i64 x] w' fun e w'' => e = .returned (.string sx) /\ Below w'.heap.size w' w'') := hide fun w' => by rw [hsx]; exact rsmall_w x w' iX
        have CY : Hid (∀ w', Calls Tryz.prog 30 #[.int .i64 y] w' fun e w'' => e = .returned (.string sy) /\ Below w'.heap.size w' w'') := hide fun w' => by rw [hsy]; exact rsmall_w y w' iY
        have HE : Hid (b ++ bs [32, 98] ++ sx ++ bs [32, 37] ++ sy = bs (preT (20, id, n, ty, ar, tt, nm, pl) ++ sp (((tt.zip ar).take (j + 1)).flatMap pairW))) := hide (by
          rw [HBB.out, hsx, hsy, cat_bs, cat_bs, cat_bs, cat_bs, HZ.out j x y hx hy]; simp)
        clear hc hc2 hx hy hsx hsy
        have d4 := fun z => ((L5.grewTo_below wr z).cell (p := ⟨w.heap.size, 4, none⟩) hcl).trans c4
        have d5 := fun z => ((L5.grewTo_below wr z).cell (p := ⟨w.heap.size, 5, none⟩) hcl).trans c5
        have dx := fun z => ((L5.grewTo_below wr z).cell (p := ⟨g, o + j, none⟩) hgr).trans e1
        have dy := fun z => ((L5.grewTo_below wr z).cell (p := ⟨g2, o2 + j, none⟩) hgr2).trans e2
        go_wp2_with fail
        refine L5.region_grew (by kernel_rfl) (by kernel_rfl) ?_
        repeat (go_big_quiet_step ((first | (go_at_call_of 30 (Value.int .i64 x); exact L5.calls_grew (CX.out _)) | (go_at_call_of 30 (Value.int .i64 y); exact L5.calls_grew (CY.out _)))))
        refine wpQuiet_nil ?_
        rintro _ ⟨z, rfl⟩
        have HW1 := hide (below_step HW.out (L5.grewTo_below wr z))
        clear d4 d5 dx dy
        go_wp2_with fail
        go_roundw
        case rel => exact ⟨j + 1, _, by omega, by go_num, rfl, HE, HW1⟩
        case measure => simp [intOf]; omega
      . obtain rfl : j = tt.length := by omega
        have HT : Hid ((tt.zip ar).take tt.length = tt.zip ar) := hide (List.take_of_length_le (by simp; omega))
        go_wp2_with fail
        go_ret
        exact ⟨L5.ret_str (by rw [HBB.out, HT.out]), B0.out.trans (HW.out.mono (by omega))⟩
  . have HP := hide (PY.out hmk)
    have hm1 : (L5.imakes 20 ty != 0) = true := by simpa using hmk
    generalize L5.imakes 20 ty = mk at *
    go_wp2_with fail
    refine (rsmall_w id w2 iId).mono ?_; rintro e w3 ⟨rfl, b3⟩
    have hdz : (bs (dig id)).size <= 21 := by rw [bs_size]; exact dig_len iId
    have B3 := hide (below_step B2.out b3)
    clear c0 c1 c2 c3 c4 c5 c6 c7 b3
    obtain ⟨c0, c1, c2, c3, c4, c5, c6, c7⟩ := box8 ((B3.out.block _ (by omega)).trans H0.out)
    have h37 : (⟨#[37]⟩ : ByteArray) = bs [37] := rfl
    have h61 : (⟨#[32, 61, 32]⟩ : ByteArray) = bs [32, 61, 32] := rfl
    have h37s : (bs [37]).size = 1 := rfl
    have h61s : (bs [32, 61, 32]).size = 3 := rfl
    obtain ⟨s4, hs4⟩ : ∃ s4, s4 = bs [37] ++ bs (dig id) ++ bs [32, 61, 32] ++ s0 := ⟨_, rfl⟩
    have hs4' := hs4.symm
    have hz4 : s4.size <= 60 := by rw [hs4, ByteArray.size_append, ByteArray.size_append, ByteArray.size_append]; omega
    have RT : Hid (RTail W w3 s4 (preT (20, id, n, ty, ar, tt, nm, pl))) := hide ⟨B3.out, by rw [hs4, HS0.out]; exact HP.out, hz4⟩
    clear hmk PN PY HS0 HP B1 B2 B3 hs4
    obtain ⟨wq, hwq⟩ : ∃ wq, wq = w3 := ⟨_, rfl⟩
    rw [<- hwq] at RT c0 c1 c2 c3 c4 c5 c6 c7 ⊢
    clear hwq
    generalize bs (dig id) = sg at *
    have hz := RT.out.2.2
    have he1 : tt.length <= ar.length := by have := hph.out; omega
    have h98 : (⟨#[32, 98]⟩ : ByteArray) = bs [32, 98] := rfl
    have h98s : (bs [32, 98]).size = 2 := rfl
    have h37 : (⟨#[32, 37]⟩ : ByteArray) = bs [32, 37] := rfl
    have h37s : (bs [32, 37]).size = 2 := rfl
    have HZT : Hid (∀ j, (sp (((tt.zip ar).take j).flatMap pairW)).length <= 46000) := hide fun j => by
      have h1 := sp_len (((tt.zip ar).take j).flatMap pairW) 22 fun x hx => by
        rw [List.mem_flatMap] at hx
        obtain ⟨⟨a, b⟩, hq, hs⟩ := hx
        have ha := List.of_mem_zip (List.mem_of_mem_take hq)
        simp [pairW] at hs
        rcases hs with rfl | rfl
        . exact lab_len (IT.out a ha.1)
        . exact val_len (IA.out b ha.2)
      have h2 : (((tt.zip ar).take j).flatMap pairW).length <= 2000 := by
        rw [List.length_flatMap]
        have : ((tt.zip ar).take j).map (fun a => (pairW a).length) = ((tt.zip ar).take j).map (fun _ => 2) := rfl
        rw [this, List.map_const', List.sum_replicate_nat]
        simp
        omega
      have h3 : (((tt.zip ar).take j).flatMap pairW).length * (22 + 1) <= 2000 * 23 := Nat.mul_le_mul h2 (Nat.le_refl _)
      omega
    have HZ : Hid (∀ j x y, tt[j]? = some x -> ar[j]? = some y -> sp (((tt.zip ar).take (j + 1)).flatMap pairW) = sp (((tt.zip ar).take j).flatMap pairW) ++ [32, 98] ++ dig x ++ [32, 37] ++ dig y) := hide fun j x y hx hy => by
      rw [List.take_add_one, (List.getElem?_zip_eq_some (z := (x, y))).2 ⟨hx, hy⟩]
      simp [pairW, sp, labW, valW]
    have HPL : Hid ((preT (20, id, n, ty, ar, tt, nm, pl)).length <= 60) := hide (by
      have h2 := congrArg ByteArray.size RT.out.2.1
      rw [bs_size] at h2
      omega)
    have HB6 := hide RT.out.1
    have HS6 := hide RT.out.2.1
    clear RT c1 c2 c3 c6 c7
    go_wp2_with fail
    clear c0 c4 c5
    go_loopw [3, 4] (fun s i wr => ∃ (j : Nat) (b : ByteArray), j <= tt.length /\ i = .int .i64 j /\ s = .string b /\ Hid (b = bs (preT (20, id, n, ty, ar, tt, nm, pl) ++ sp (((tt.zip ar).take j).flatMap pairW))) /\ Hid (Below W.heap.size W wr)) (fun _ i _ => tt.length - (intOf i).toNat)
    case atStart => exact ⟨0, _, Nat.zero_le _, rfl, rfl, hide (by rw [HS6.out]; simp [sp]), HB6⟩
    case round =>
      obtain ⟨j, b, hj, rfl, rfl, HBB, HW⟩ := hrel
      have hbz : b.size <= 46060 := by rw [HBB.out, bs_size, List.length_append]; have := HZT.out j; have := HPL.out; omega
      obtain ⟨c0, c1, c2, c3, c4, c5, c6, c7⟩ := box8 ((HW.out.block _ (by omega)).trans H0.out)
      clear c0 c1 c2 c3 c6 c7
      have hcl : w.heap.size < wr.heap.size := Nat.lt_of_lt_of_le hz0 HW.out.size
      by_cases hlt : j < tt.length
      . obtain ⟨x, hx⟩ : ∃ x, tt[j]? = some x := ⟨_, List.getElem?_eq_getElem hlt⟩
        obtain ⟨y, hy⟩ : ∃ y, ar[j]? = some y := ⟨_, List.getElem?_eq_getElem (by omega)⟩
        rcases U0.out with he | ⟨g, o, rfl, hg, hc⟩
        . subst he; simp at hlt
        rcases A0.out with he | ⟨g2, o2, rfl, hg2, hc2⟩
        . subst he; simp at hy
        have iX : I64 x := IT.out x (List.mem_of_getElem? hx)
        have iY : I64 y := IA.out y (List.mem_of_getElem? hy)
        have e1 := (HW.out.cell (p := ⟨g, o + j, none⟩) hg).trans (hc j x hx)
        have e2 := (HW.out.cell (p := ⟨g2, o2 + j, none⟩) hg2).trans (hc2 j y hy)
        have hgr : g < wr.heap.size := Nat.lt_of_lt_of_le hg HW.out.size
        have hgr2 : g2 < wr.heap.size := Nat.lt_of_lt_of_le hg2 HW.out.size
        have hlt' : (j : Int) < tt.length := by omega
        have hlt2 : (j : Int) < ar.length := by omega
        have hj0 : (0 : Int) <= j := by omega
        obtain ⟨sx, hsx⟩ : ∃ sx, sx = bs (dig x) := ⟨_, rfl⟩
        obtain ⟨sy, hsy⟩ : ∃ sy, sy = bs (dig y) := ⟨_, rfl⟩
        have zx : sx.size <= 21 := by rw [hsx, bs_size]; exact dig_len iX
        have zy : sy.size <= 21 := by rw [hsy, bs_size]; exact dig_len iY
        have CX : Hid (∀ w', Calls Tryz.prog 30 #[.int .i64 x] w' fun e w'' => e = .returned (.string sx) /\ Below w'.heap.size w' w'') := hide fun w' => by rw [hsx]; exact rsmall_w x w' iX
        have CY : Hid (∀ w', Calls Tryz.prog 30 #[.int .i64 y] w' fun e w'' => e = .returned (.string sy) /\ Below w'.heap.size w' w'') := hide fun w' => by rw [hsy]; exact rsmall_w y w' iY
        have HE : Hid (b ++ bs [32, 98] ++ sx ++ bs [32, 37] ++ sy = bs (preT (20, id, n, ty, ar, tt, nm, pl) ++ sp (((tt.zip ar).take (j + 1)).flatMap pairW))) := hide (by
          rw [HBB.out, hsx, hsy, cat_bs, cat_bs, cat_bs, cat_bs, HZ.out j x y hx hy]; simp)
        clear hc hc2 hx hy hsx hsy
        have d4 := fun z => ((L5.grewTo_below wr z).cell (p := ⟨w.heap.size, 4, none⟩) hcl).trans c4
        have d5 := fun z => ((L5.grewTo_below wr z).cell (p := ⟨w.heap.size, 5, none⟩) hcl).trans c5
        have dx := fun z => ((L5.grewTo_below wr z).cell (p := ⟨g, o + j, none⟩) hgr).trans e1
        have dy := fun z => ((L5.grewTo_below wr z).cell (p := ⟨g2, o2 + j, none⟩) hgr2).trans e2
        go_wp2_with fail
        refine L5.region_grew (by kernel_rfl) (by kernel_rfl) ?_
        repeat (go_big_quiet_step ((first | (go_at_call_of 30 (Value.int .i64 x); exact L5.calls_grew (CX.out _)) | (go_at_call_of 30 (Value.int .i64 y); exact L5.calls_grew (CY.out _)))))
        refine wpQuiet_nil ?_
        rintro _ ⟨z, rfl⟩
        have HW1 := hide (below_step HW.out (L5.grewTo_below wr z))
        clear d4 d5 dx dy
        go_wp2_with fail
        go_roundw
        case rel => exact ⟨j + 1, _, by omega, by go_num, rfl, HE, HW1⟩
        case measure => simp [intOf]; omega
      . obtain rfl : j = tt.length := by omega
        have HT : Hid ((tt.zip ar).take tt.length = tt.zip ar) := hide (List.take_of_length_le (by simp; omega))
        go_wp2_with fail
        go_ret
        exact ⟨L5.ret_str (by rw [HBB.out, HT.out]), B0.out.trans (HW.out.mono (by omega))⟩
end Go.Proofs.YtahhbckccdigoaaGreatDoor
namespace Go.Proofs.YtahhbckccdigoaaGreatDoor
open Go Go.RowKit
open G (Tok Er Ins Fun)
theorem rinstr_any (x : Ins) (v : Value) (w : World) (h : InsV w x v) (hF : Fin7 x) : Calls Tryz.prog 13 #[v] w fun e w' => e = .returned (.string (bs (insT x))) /\ Below w.heap.size w w' := by
  obtain ⟨k, id, n, ty, ar, tt, nm, pl⟩ := x
  obtain ⟨ao, to, ca, ct, rfl, s1, s2, _⟩ := h
  rw [insT_eq]
  unfold opdW
  dsimp only at s1 s2 ⊢
  by_cases h1 : k = 1 \/ k = 23 \/ k = 29
  . rw [if_pos h1]
    rcases h1 with rfl | rfl | rfl
    . exact rins_num1 id n ty pl ar tt nm ao to ca ct w s1 s2 hF
    . exact rins_num23 id n ty pl ar tt nm ao to ca ct w s1 s2 hF
    . exact rins_num29 id n ty pl ar tt nm ao to ca ct w s1 s2 hF
  rw [if_neg h1]
  by_cases h2 : k = 10
  . subst h2; rw [if_pos rfl]; exact rins_new id n ty pl ar tt nm ao to ca ct w s1 s2 hF
  rw [if_neg h2]
  by_cases h3 : k = 11 \/ k = 12 \/ k = 15 \/ k = 24 \/ k = 13 \/ k = 14
  . rw [if_pos h3]
    rcases h3 with rfl | rfl | rfl | rfl | rfl | rfl
    . exact rins_mem11 id n ty pl ar tt nm ao to ca ct w s1 s2 hF
    . exact rins_mem12 id n ty pl ar tt nm ao to ca ct w s1 s2 hF
    . exact rins_mem15 id n ty pl ar tt nm ao to ca ct w s1 s2 hF
    . exact rins_mem24 id n ty pl ar tt nm ao to ca ct w s1 s2 hF
    . exact rins_mem13 id n ty pl ar tt nm ao to ca ct w s1 s2 hF
    . exact rins_mem14 id n ty pl ar tt nm ao to ca ct w s1 s2 hF
  rw [if_neg h3]
  by_cases h4 : k = 20
  . subst h4; rw [if_pos rfl, <- zip_pair]; exact rins_phi id n ty pl ar tt nm ao to ca ct w s1 s2 hF
  rw [if_neg h4]
  by_cases h5 : k = 21
  . subst h5
    rw [if_pos rfl]
    by_cases h6 : n = 0
    . subst h6; rw [if_neg (fun h => h rfl), List.nil_append]; exact rins_call0 id ty pl ar tt nm ao to ca ct w s1 s2 hF
    . rw [if_pos h6]; exact rins_call1 id n ty pl h6 ar tt nm ao to ca ct w s1 s2 hF
  rw [if_neg h5]
  exact rins_else k (by omega) id n ty pl ar tt nm ao to ca ct w s1 s2 hF
end Go.Proofs.YtahhbckccdigoaaGreatDoor
namespace Go.Proofs.YtahhbckccdigoaaGreatDoor
open Go Go.RowKit
open G (Tok Er Ins Fun)
theorem rletter_w (t : Int) (w : World) : Calls Tryz.prog 29 #[.int .i64 t] w fun e w' => e = .returned (.string (bs (letL t))) /\ w' = w := by
  rw [letL_bs]; exact L5.refLetter_any t w
theorem flat_len (l : List (List UInt8)) : l.flatten.length = lens l := by simp [lens]
theorem blks_split (l : List (List Ins)) (j : Nat) (b : List Ins) (i : Nat) (h : l[j]? = some b) : ∃ rest, blksW 0 l = blksW 0 (l.take j) ++ ([labW (j : Int), [58, 10]] ++ (b.take i).flatMap lineW) ++ rest := by
  have h1 := blksW_take l 0 j b h
  have h2 := blksW_app (l.take (j + 1)) (l.drop (j + 1)) 0
  rw [List.take_append_drop] at h2
  have h3 : b.flatMap lineW = (b.take i).flatMap lineW ++ (b.drop i).flatMap lineW := by rw [<- List.flatMap_append, List.take_append_drop]
  refine ⟨(b.drop i).flatMap lineW ++ blksW (0 + (l.take (j + 1)).length) (l.drop (j + 1)), ?_⟩
  rw [h2, h1, blkW_line, h3, Nat.zero_add]
  simp only [List.append_assoc]
theorem jn_take1 (f : Int -> List UInt8) (ps : List Int) (i : Nat) (p : Int) (h : ps[i]? = some p) : jn [32] ((ps.take (i + 1)).map f) = jn [32] ((ps.take i).map f) ++ (if 0 < i then [32] else []) ++ f p := by
  cases ps with
  | nil => simp at h
  | cons x r =>
    cases i with
    | zero => simp at h; subst h; simp [jn]
    | succ i =>
      rw [List.take_succ_cons, List.take_succ_cons, List.take_add_one]
      rw [List.getElem?_cons_succ] at h
      rw [h]
      simp [jn]
def hd0 (nm : List UInt8) (ps : List Int) : List UInt8 := [102, 117, 110, 99, 32] ++ nm ++ [40] ++ jn [32] (ps.map letL)
theorem rfunc_try (nm : List UInt8) (ps : List Int) (rt pl : Int) (bl : List (List Ins)) (ao bo : Option Addr) (c cb : Nat) (w : World) (hs : Sl w ao ps) (hb : BlksR w bl (.slice bo bl.length cb)) (hF : FinF (nm, ps, rt, bl, pl)) (hT : (funT (nm, ps, rt, bl, pl)).length <= 67108864) :
    Calls Tryz.prog 11 #[.agg #[.string (bs nm), .slice ao ps.length c, .int .i64 rt, .slice bo bl.length cb, .int .i64 pl]] w fun e w' => e = .returned (.string (bs (funT (nm, ps, rt, bl, pl)))) /\ Below w.heap.size w w' := by
  obtain ⟨f1, f2, f3, f4⟩ := hF
  dsimp only at f1 f2 f3 f4
  have b0 := below_box w (o5 nm rt pl ao bo ps.length bl.length c cb)
  have H0 := hide (heap_alloc_new w (o5 nm rt pl ao bo ps.length bl.length c cb))
  have A0 := hide (hs.below b0)
  have HBl := hide (hb.below b0)
  have hz0 : (w.alloc (o5 nm rt pl ao bo ps.length bl.length c cb)).heap.size > w.heap.size := by simp
  have B0 := hide b0
  have F4 := hide f4
  have hcb : bl.length <= cb /\ cb <= maxLen := by
    obtain ⟨ao', c', e, h1, h2, _⟩ := hb
    injection e with e1 e2 e3
    subst e3
    exact ⟨h1, h2⟩
  have hblc := blks_count bl 0
  have HTT : Hid (lens (funW (nm, ps, rt, bl, pl)) <= 67108864) := hide (by unfold funT at hT; rwa [jn_nil, flat_len] at hT)
  have hnz : (bs nm).size <= 1000 := by rw [bs_size]; exact f1
  have HP1 : Hid (∀ i, (jn [32] ((ps.take i).map letL)).length <= 2000) := hide fun i => by
    have hp : (jn [32] ((ps.take i).map letL)).length <= ((ps.take i).map letL).length * (1 + 1) := jn_short (fun x hx => by
      simp only [List.mem_map] at hx
      obtain ⟨t, _, rfl⟩ := hx
      exact letL_len t) (by simp)
    rw [List.length_map, List.length_take] at hp
    omega
  unfold maxLen at hcb
  clear b0 hs hb f4 hT
  have h1 : (⟨#[102, 117, 110, 99, 32]⟩ : ByteArray) = bs [102, 117, 110, 99, 32] := rfl
  have h2 : (⟨#[40]⟩ : ByteArray) = bs [40] := rfl
  have h3 : (⟨#[41, 32]⟩ : ByteArray) = bs [41, 32] := rfl
  have h4 : (⟨#[32, 123, 10]⟩ : ByteArray) = bs [32, 123, 10] := rfl
  have h5 : (⟨#[32]⟩ : ByteArray) = bs [32] := rfl
  have h6 : (⟨#[98]⟩ : ByteArray) = bs [98] := rfl
  have h7 : (⟨#[58, 10]⟩ : ByteArray) = bs [58, 10] := rfl
  have h8 : (⟨#[32, 32]⟩ : ByteArray) = bs [32, 32] := rfl
  have h9 : (⟨#[10]⟩ : ByteArray) = bs [10] := rfl
  have h10 : (⟨#[125, 10]⟩ : ByteArray) = bs [125, 10] := rfl
  have z1 : (bs [102, 117, 110, 99, 32]).size = 5 := rfl
  have z2 : (bs [40]).size = 1 := rfl
  have z3 : (bs [41, 32]).size = 2 := rfl
  have z4 : (bs [32, 123, 10]).size = 3 := rfl
  have z5 : (bs [32]).size = 1 := rfl
  have z6 : (bs [98]).size = 1 := rfl
  have z7 : (bs [58, 10]).size = 2 := rfl
  have z8 : (bs [32, 32]).size = 2 := rfl
  have z9 : (bs [10]).size = 1 := rfl
  have z10 : (bs [125, 10]).size = 2 := rfl
  go_enter Tryz.func11, Tryz.ntmps11
  go_upto_region 1 with fail
  show Code.wp _ _ _ _ (w.alloc (o5 nm rt pl ao bo ps.length bl.length c cb))
  generalize w.alloc (o5 nm rt pl ao bo ps.length bl.length c cb) = W at *
  obtain ⟨c0, c1, c2, c3, c4⟩ := box5 H0.out
  have hS : bs [102, 117, 110, 99, 32] ++ bs nm ++ bs [40] = bs ([102, 117, 110, 99, 32] ++ nm ++ [40] ++ jn [32] ((ps.take 0).map letL)) := by rw [cat_bs, cat_bs]; simp [jn]
  replace hS := hide hS
  go_wp2_with fail
  clear c0 c1 c2 c3 c4
  go_loopw [3, 4] (fun s i wr => ∃ (k : Nat) (b : ByteArray), k <= ps.length /\ i = .int .i64 k /\ s = .string b /\ Hid (b = bs ([102, 117, 110, 99, 32] ++ nm ++ [40] ++ jn [32] ((ps.take k).map letL))) /\ Hid (Below W.heap.size W wr)) (fun _ i _ => ps.length - (intOf i).toNat)
  case atStart => exact ⟨0, _, Nat.zero_le _, rfl, rfl, hS, hide (Below.refl _ _)⟩
  case round =>
    obtain ⟨k, b, hk, rfl, rfl, HB, HWp⟩ := hrel
    obtain ⟨c0, c1, c2, c3, c4⟩ := box5 ((HWp.out.block _ (by omega)).trans H0.out)
    have hbz : b.size <= 3006 := by rw [HB.out, bs_size]; have := HP1.out k; simp only [List.length_append, List.length_cons, List.length_nil]; omega
    by_cases hlt : k < ps.length
    . obtain ⟨p, hp⟩ : ∃ p, ps[k]? = some p := ⟨_, List.getElem?_eq_getElem hlt⟩
      rcases A0.out with he | ⟨g, o, rfl, hg, hc⟩
      . subst he; simp at hlt
      have hcell := (HWp.out.cell (p := ⟨g, o + k, none⟩) hg).trans (hc k p hp)
      have HJ := hide (jn_take1 letL ps k p hp)
      have hlt' : (k : Int) < ps.length := by omega
      have hpz : (bs (letL p)).size <= 1 := by rw [bs_size]; exact letL_len p
      clear hc hp
      by_cases hk0 : 0 < k
      . have hk0' : (0 : Int) < k := by omega
        have HE : Hid (b ++ bs [32] ++ bs (letL p) = bs ([102, 117, 110, 99, 32] ++ nm ++ [40] ++ jn [32] ((ps.take (k + 1)).map letL))) := hide (by rw [HB.out, cat_bs, cat_bs, HJ.out, if_pos hk0]; simp)
        go_wp2_with fail
        refine (rletter_w p _).mono ?_; rintro e w1 ⟨rfl, rfl⟩
        generalize bs (letL p) = sl at *
        go_wp2_with fail
        go_roundw
        case rel => exact ⟨k + 1, _, by omega, by go_num, rfl, HE, HWp⟩
        case measure => simp [intOf]; omega
      . have hk0' : ¬ ((0 : Int) < k) := by omega
        have HE : Hid (b ++ bs (letL p) = bs ([102, 117, 110, 99, 32] ++ nm ++ [40] ++ jn [32] ((ps.take (k + 1)).map letL))) := hide (by rw [HB.out, cat_bs, HJ.out, if_neg hk0]; simp)
        go_wp2_with fail
        refine (rletter_w p _).mono ?_; rintro e w1 ⟨rfl, rfl⟩
        generalize bs (letL p) = sl at *
        go_wp2_with fail
        go_roundw
        case rel => exact ⟨k + 1, _, by omega, by go_num, rfl, HE, HWp⟩
        case measure => simp [intOf]; omega
    . obtain rfl : k = ps.length := by omega
      have HE : Hid (b ++ bs [41, 32] ++ bs (letL rt) ++ bs [32, 123, 10] = bs (headW (nm, ps, rt, bl, pl) ++ blksW 0 (bl.take 0)).flatten) := hide (by
        rw [HB.out, cat_bs, cat_bs, cat_bs, List.take_length]
        simp [headW, parT, blksW])
      have hrz : (bs (letL rt)).size <= 1 := by rw [bs_size]; exact letL_len rt
      go_wp2_with fail
      refine (rletter_w rt _).mono ?_; rintro e w1 ⟨rfl, rfl⟩
      generalize bs (letL rt) = sl at *
      clear HB
      go_wp2_with fail
      clear c0 c1 c2 c3 c4
      go_loopw [3, 5] (fun s i wr => ∃ (K : Nat) (b : ByteArray), K <= bl.length /\ i = .int .i64 K /\ s = .string b /\ Hid (b = bs (headW (nm, ps, rt, bl, pl) ++ blksW 0 (bl.take K)).flatten) /\ Hid (Below W.heap.size W wr)) (fun _ i _ => bl.length - (intOf i).toNat)
      case atStart => exact ⟨0, _, Nat.zero_le _, rfl, rfl, HE, HWp⟩
      case round =>
        obtain ⟨K, b, hK, rfl, rfl, HB, HW⟩ := hrel
        obtain ⟨c0, c1, c2, c3, c4⟩ := box5 ((HW.out.block _ (by omega)).trans H0.out)
        clear c0 c1 c2 c4
        by_cases hkt : K < bl.length
        . obtain ⟨bb, hbK⟩ : ∃ bb, bl[K]? = some bb := ⟨bl[K], List.getElem?_eq_some_iff.2 ⟨hkt, rfl⟩⟩
          obtain ⟨ao', c', eq', hh1, hh2, hh3⟩ := HBl.out
          injection eq' with e1 e2 e3
          subst e1 e3
          rcases hh3 with hh3 | ⟨gb, ob, rfl, hgb, hbl⟩
          . subst hh3; simp at hkt
          obtain ⟨vk, kd, kk⟩ := hbl K bb hbK
          have KD := hide kd
          obtain ⟨aok, capk, rfl, lk1, lk2, kins⟩ := kk
          have LEN : Hid (∀ i, lens (headW (nm, ps, rt, bl, pl) ++ blksW 0 (bl.take K) ++ [labW (K : Int), [58, 10]] ++ (bb.take i).flatMap lineW) <= 67108864) := hide fun i => by
            obtain ⟨rest, hr⟩ := blks_split bl K bb i hbK
            have h := HTT.out
            unfold funW at h
            dsimp only at h
            rw [hr] at h
            simp only [lens_app] at h ⊢
            omega
          have HTK := hide (blksW_take bl 0 K bb hbK)
          have HFb := hide (F4.out bb (List.mem_of_getElem? hbK))
          have KI := hide kins
          have hkI : (K : Int) < bl.length := by omega
          have iK : I64 (K : Int) := ⟨by omega, by omega⟩
          have hbz : b.size <= 67108864 := by
            have := LEN.out 0
            rw [HB.out, bs_size, flat_len]
            simp only [lens_app] at this ⊢
            omega
          have HE2 : Hid (b ++ bs [98] ++ bs (dig (K : Int)) ++ bs [58, 10] = bs (headW (nm, ps, rt, bl, pl) ++ blksW 0 (bl.take K) ++ [labW (K : Int), [58, 10]] ++ (bb.take 0).flatMap lineW).flatten) := hide (by
            rw [HB.out, cat_bs, cat_bs, cat_bs]; simp [labW])
          have hdz : (bs (dig (K : Int))).size <= 21 := by rw [bs_size]; exact dig_len iK
          unfold maxLen at lk2
          clear kins kd hbl hbK hh1 hh2
          go_wp2_with fail
          refine (rsmall_w K wr iK).mono ?_; rintro e w5 ⟨rfl, b5⟩
          generalize bs (dig (K : Int)) = sk at *
          have HW5 := hide (below_step HW.out b5)
          clear b5 c3
          go_wp2_with fail
          clear hbz HB HE
          go_loopw [3, 6] (fun s i wr => ∃ (J : Nat) (b : ByteArray), J <= bb.length /\ i = .int .i64 J /\ s = .string b /\ Hid (b = bs (headW (nm, ps, rt, bl, pl) ++ blksW 0 (bl.take K) ++ [labW (K : Int), [58, 10]] ++ (bb.take J).flatMap lineW).flatten) /\ Hid (Below W.heap.size W wr)) (fun _ i _ => bb.length - (intOf i).toNat)
          case atStart => exact ⟨0, _, Nat.zero_le _, rfl, rfl, HE2, HW5⟩
          case round =>
            obtain ⟨J, b', hJ, rfl, rfl, HB, HW⟩ := hrel
            obtain ⟨c0, c1, c2, c3, c4⟩ := box5 ((HW.out.block _ (by omega)).trans H0.out)
            clear c0 c1 c2 c4
            have kd' := (HW.out.cell (p := ⟨gb, ob + K, none⟩) hgb).trans KD.out
            have hbz : b'.size <= 67108864 := by
              have := LEN.out J
              rw [HB.out, bs_size, flat_len]
              exact this
            by_cases hjt : J < bb.length
            . obtain ⟨y, hyJ⟩ : ∃ y, bb[J]? = some y := ⟨bb[J], List.getElem?_eq_some_iff.2 ⟨hjt, rfl⟩⟩
              rcases KI.out with hh | ⟨gi, oi, rfl, hin⟩
              . subst hh; simp at hjt
              obtain ⟨aoy, toy, cay, cty, hv, m0, m1, m2, m3, m4, m5, m6, m7⟩ := ((hin J y hyJ).below HW.out).val
              have HV := hide hv
              have HFy := hide (HFb.out y (List.mem_of_getElem? hyJ))
              have HE3 : Hid (b' ++ bs [32, 32] ++ bs (insT y) ++ bs [10] = bs (headW (nm, ps, rt, bl, pl) ++ blksW 0 (bl.take K) ++ [labW (K : Int), [58, 10]] ++ (bb.take (J + 1)).flatMap lineW).flatten) := hide (by
                rw [HB.out, cat_bs, cat_bs, cat_bs, line_take bb J y hyJ]; simp)
              have hjI : (J : Int) < bb.length := by omega
              have hti := insT_len HFy.out
              have htz : (bs (insT y)).size <= 3000000 := by rw [bs_size]; exact hti
              obtain ⟨op, id, nn, ty, ar, tt, na, pp⟩ := y
              dsimp only at HV m0 m1 m2 m3 m4 m5 m6 m7
              clear hin hyJ hv hti
              go_wp2_with fail
              refine (rinstr_any (op, id, nn, ty, ar, tt, na, pp) _ _ HV.out HFy.out).mono ?_; rintro e w7 ⟨rfl, b7⟩
              generalize bs (insT (op, id, nn, ty, ar, tt, na, pp)) = si at *
              have HW7 := hide (below_step HW.out b7)
              clear m0 m1 m2 m3 m4 m5 m6 m7 b7 c3 kd'
              go_wp2_with fail
              go_roundw
              case rel => exact ⟨J + 1, _, by omega, by go_num, rfl, HE3, HW7⟩
              case measure => simp [intOf]; omega
            . obtain rfl : J = bb.length := by omega
              have PN : Hid (b' = bs (headW (nm, ps, rt, bl, pl) ++ blksW 0 (bl.take (K + 1))).flatten) := hide (by
                rw [HB.out, HTK.out, Nat.zero_add, blkW_line, List.take_length]
                simp)
              clear HB
              go_wp2_with fail
              go_roundw
              case rel => exact ⟨K + 1, _, by omega, by go_num, rfl, PN, HW⟩
              case measure => simp [intOf]; omega
        . obtain rfl : K = bl.length := by omega
          have HE2 : Hid (b ++ bs [125, 10] = bs (funT (nm, ps, rt, bl, pl))) := hide (by
            rw [HB.out, cat_bs, List.take_length]
            unfold funT funW
            rw [jn_nil]
            simp)
          have hbz : b.size <= 67108864 := by
            have h := HTT.out
            unfold funW at h
            dsimp only at h
            rw [HB.out, bs_size, flat_len, List.take_length]
            simp only [lens_app] at h ⊢
            omega
          go_wp2_with fail
          go_ret
          exact ⟨L5.ret_str HE2.out, B0.out.trans (HW.out.mono (by omega))⟩
end Go.Proofs.YtahhbckccdigoaaGreatDoor
namespace Go.Proofs.YtahhbckccdigoaaGreatDoor
open Go Go.RowKit
open G (Tok Er Ins Fun)
theorem rfunc_any (f : Fun) (v : Value) (w : World) (h : FunV w f v) (hF : FinF f) (hT : (funT f).length <= 67108864) : Calls Tryz.prog 11 #[v] w fun e w' => e = .returned (.string (bs (funT f))) /\ Below w.heap.size w w' := by
  obtain ⟨nm, ps, rt, bl, pl⟩ := f
  obtain ⟨vp, vb, rfl, ⟨ao, c, rfl, h1, _⟩, h2⟩ := h
  have h2' := h2
  obtain ⟨bo, cb, rfl, _⟩ := h2
  exact rfunc_try nm ps rt pl bl ao bo c cb w h1 h2' hF hT
theorem progT_take (p : List Fun) (k : Nat) (f : Fun) (h : p[k]? = some f) : progT (p.take (k + 1)) = progT (p.take k) ++ funT f := by
  unfold progT
  rw [jn_nil, jn_nil, List.take_add_one, h]
  simp
theorem progT_len {p : List Fun} (h : FinP p) (k : Nat) : (progT (p.take k)).length <= 67108864000 := by
  unfold progT
  rw [jn_nil, flat_len]
  have h1 := lens_le ((p.take k).map funT) 67108864 fun x hx => by
    simp only [List.mem_map] at hx
    obtain ⟨f, hf, rfl⟩ := hx
    exact (h.2 f (List.mem_of_mem_take hf)).2
  have h2 : ((p.take k).map funT).length <= 1000 := by have := h.1; simp; omega
  have h3 : ((p.take k).map funT).length * 67108864 <= 1000 * 67108864 := Nat.mul_le_mul_right _ h2
  omega
theorem rprog_text (p : List Fun) (ao : Option Addr) (c : Nat) (w : World) (hp : ProgR w p (.slice ao p.length c)) (hF : FinP p) :
    Calls Tryz.prog 15 #[.agg #[.slice ao p.length c]] w fun e w' => e = .returned (.string (bs (progT p))) /\ Below w.heap.size w w' := by
  have HPL := hide (fun k => progT_len hF k)
  obtain ⟨f1, f2⟩ := hF
  have b0 := below_box w (.cells #[.slice ao p.length c] 24)
  have H0 := hide (heap_alloc_new w (.cells #[.slice ao p.length c] 24))
  have hz0 : (w.alloc (.cells #[.slice ao p.length c] 24)).heap.size > w.heap.size := by simp
  have B0 := hide b0
  have HP := hide (hp.below b0)
  have F2 := hide f2
  clear b0 hp f2
  go_enter Tryz.func15, Tryz.ntmps15
  go_upto_region 1 with fail
  show Code.wp _ _ _ _ (w.alloc (.cells #[.slice ao p.length c] 24))
  generalize w.alloc (.cells #[.slice ao p.length c] 24) = W at *
  have hpc : p.length <= c /\ c <= maxLen := by
    obtain ⟨ao', c', e, h1, h2, _⟩ := HP.out
    injection e with e1 e2 e3
    subst e3
    exact ⟨h1, h2⟩
  unfold maxLen at hpc
  go_wp2_with fail
  go_loopw [3, 4] (fun s i wr => ∃ (K : Nat) (b : ByteArray), K <= p.length /\ i = .int .i64 K /\ s = .string b /\ Hid (b = bs (progT (p.take K))) /\ Hid (Below W.heap.size W wr)) (fun _ i _ => p.length - (intOf i).toNat)
  case atStart => exact ⟨0, _, Nat.zero_le _, rfl, rfl, hide rfl, hide (Below.refl _ _)⟩
  case round =>
    obtain ⟨K, b, hK, rfl, rfl, HB, HW⟩ := hrel
    have c0 := cell9 ((HW.out.block _ (by omega)).trans H0.out)
    have hbz : b.size <= 67108864000 := by rw [HB.out, bs_size]; exact HPL.out K
    by_cases hkt : K < p.length
    . obtain ⟨f, hfK⟩ : ∃ f, p[K]? = some f := ⟨p[K], List.getElem?_eq_some_iff.2 ⟨hkt, rfl⟩⟩
      obtain ⟨ao', c', eq', hh1, hh2, hh3⟩ := HP.out
      injection eq' with e1 e2 e3
      subst e1 e3
      rcases hh3 with hh3 | ⟨gb, ob, rfl, hin⟩
      . subst hh3; simp at hkt
      obtain ⟨aoy, boy, cy, cby, hv, m0, m1, m2, m3, m4⟩ := ((hin K f hfK).below HW.out).val
      have HV := hide hv
      have HFf := hide (F2.out f (List.mem_of_getElem? hfK))
      have HE : Hid (b ++ bs (funT f) = bs (progT (p.take (K + 1)))) := hide (by rw [HB.out, cat_bs, progT_take p K f hfK])
      have htz : (bs (funT f)).size <= 67108864 := by rw [bs_size]; exact HFf.out.2
      have hkI : (K : Int) < p.length := by omega
      obtain ⟨nm, ps, rt, bl, pl⟩ := f
      dsimp only at HV m0 m1 m2 m3 m4
      clear hin hfK hv
      go_wp2_with fail
      refine (rfunc_any (nm, ps, rt, bl, pl) _ _ HV.out HFf.out.1 HFf.out.2).mono ?_; rintro e w7 ⟨rfl, b7⟩
      generalize bs (funT (nm, ps, rt, bl, pl)) = sf at *
      have HW7 := hide (below_step HW.out b7)
      clear m0 m1 m2 m3 m4 b7 c0
      go_wp2_with fail
      go_roundw
      case rel => exact ⟨K + 1, _, by omega, by go_num, rfl, HE, HW7⟩
      case measure => simp [intOf]; omega
    . obtain rfl : K = p.length := by omega
      have HE : Hid (b = bs (progT p)) := hide (by have := HB.out; rwa [List.take_length] at this)
      go_wp2_with fail
      go_ret
      exact ⟨L5.ret_str HE.out, B0.out.trans (HW.out.mono (by omega))⟩
end Go.Proofs.YtahhbckccdigoaaGreatDoor
namespace Go.Proofs.YtahhbckccdigoaaGreatDoor
open Go Go.RowKit
open G (Tok Er Ins Fun peek0 peek1 atOf)
def dI64 (n : Int) : Decidable (I64 n) := by unfold I64; infer_instance
def dMem (k : Int) : Decidable (memOp k) := by unfold memOp; infer_instance
def dFin7 (x : Ins) : Decidable (Fin7 x) := by
  letI := dI64
  letI := dMem
  unfold Fin7; infer_instance
def dOkI (x : Ins) : Decidable (OkI x) := by
  letI := dI64
  unfold OkI; infer_instance
def fin7B (x : Ins) : Bool := @decide (Fin7 x) (dFin7 x)
def okiB (x : Ins) : Bool := @decide (OkI x) (dOkI x)
theorem fin7_of {x : Ins} (h : fin7B x = true) : Fin7 x := @of_decide_eq_true _ (dFin7 x) h
theorem oki_of {x : Ins} (h : okiB x = true) : OkI x := @of_decide_eq_true _ (dOkI x) h
theorem small_all : ([fMain, fF].all fun f => decide (f.1.length <= 1000) && decide (f.2.1.length <= 1000) && decide ((blksW 0 f.2.2.2.1).length <= 900000) && decide ((funT f).length <= 67108864) && f.2.2.2.1.all fun b => b.all fun x => fin7B x && okiB x) = true := by decide +kernel
theorem small_fin : FinP [fMain, fF] := by
  refine ⟨by decide, fun f hf => ?_⟩
  have h := List.all_eq_true.1 small_all f hf
  simp only [Bool.and_eq_true, decide_eq_true_eq, List.all_eq_true] at h
  obtain ⟨⟨⟨⟨h1, h2⟩, h3⟩, h4⟩, h5⟩ := h
  exact ⟨⟨h1, h2, h3, fun b hb x hx => fin7_of (h5 b hb x hx).1⟩, h4⟩
theorem small_okf : ∀ f ∈ [fMain, fF], OkF f := by
  intro f hf
  have h := List.all_eq_true.1 small_all f hf
  simp only [Bool.and_eq_true, decide_eq_true_eq, List.all_eq_true] at h
  obtain ⟨⟨⟨⟨h1, h2⟩, h3⟩, h4⟩, h5⟩ := h
  exact ⟨by unfold maxLen; omega, fun b hb x hx => oki_of (h5 b hb x hx).2⟩
def x14 : Ins := (14, -1, 2, 0, [3, 4], [], [], 0)
def x8a : Ins := (8, 0, 0, 0, [], [], [], 0)
def x8b : Ins := (8, -1, 0, 0, [], [], [], 0)
theorem x14_fin : Fin7 x14 := fin7_of (by decide +kernel)
theorem x14_text : insT x14 = [115, 116, 111, 114, 101, 46, 112, 32, 37, 51, 32, 50, 32, 37, 52] := by decide +kernel
theorem x14_check : checkC x14 = 0 := by decide +kernel
theorem x8a_check : checkC x8a = 0 := by decide +kernel
theorem x8b_check : checkC x8b = 8 := by decide +kernel
theorem fF_long : 30 < (funT fF).length := by decide +kernel
end Go.Proofs.YtahhbckccdigoaaGreatDoor
