/- Layer 7, the reference: an instruction as a text: loads and stores. -/
import Derived.Test.YtahhbckccdigoaaGreatDoorMbAW
import Derived.Test.YtahhbckccdigoaaGreatDoorMbBC
set_option maxHeartbeats 8000000
set_option maxRecDepth 20000
namespace Go.Proofs.YtahhbckccdigoaaGreatDoor
open Go Go.RowKit
open G (Tok Er Ins Fun)
theorem rins_mem11 (id n ty pl : Int) (ar tt : List Int) (nm : List UInt8) (ao to : Option Addr) (ca ct : Nat) (w : World) (hs1 : Sl w ao ar) (hs2 : Sl w to tt) (hF : Fin7 (11, id, n, ty, ar, tt, nm, pl)) :
    Calls Tryz.prog 13 #[.agg #[.int .i64 11, .int .i64 id, .int .i64 n, .int .i64 ty, .slice ao ar.length ca, .slice to tt.length ct, .string (bs nm), .int .i64 pl]] w fun e w' => e = .returned (.string (bs (preT (11, id, n, ty, ar, tt, nm, pl) ++ sp ((ar.take 1).map valW ++ [dig n] ++ (ar.drop 1).map valW)))) /\ Below w.heap.size w w' := by
  have hm : Hid (ar ≠ []) := hide (hF.2.2.2.2.2.2.2.1 (by unfold memOp; simp))
  have b0 := below_box w (o8 11 id n ty pl ao to ar.length tt.length ca ct nm)
  have H0 := hide (heap_alloc_new w (o8 11 id n ty pl ao to ar.length tt.length ca ct nm))
  have A0 := hide (hs1.below b0)
  have U0 := hide (hs2.below b0)
  have hz0 : (w.alloc (o8 11 id n ty pl ao to ar.length tt.length ca ct nm)).heap.size > w.heap.size := by simp
  have B0 := hide b0
  obtain ⟨iId, iN, iA, iT, lA, lT, lN, hq1, hq2⟩ := hF
  clear hq1 hq2
  dsimp only at iId iN iA iT lA lT lN
  have IA := hide iA
  have IT := hide iT
  have PN := hide (pre_no (x := (11, id, n, ty, ar, tt, nm, pl)))
  have PY := hide (pre_yes (x := (11, id, n, ty, ar, tt, nm, pl)))
  have hiw := iword_size 11 ty
  have hnz : (bs nm).size <= 1000 := by rw [bs_size]; exact lN
  clear b0 hs1 hs2 iA iT
  go_enter Tryz.func13, Tryz.ntmps13
  go_upto_region 1 with fail
  show Code.wp _ _ _ _ (w.alloc (o8 11 id n ty pl ao to ar.length tt.length ca ct nm))
  generalize w.alloc (o8 11 id n ty pl ao to ar.length tt.length ca ct nm) = W at *
  obtain ⟨c0, c1, c2, c3, c4, c5, c6, c7⟩ := box8 H0.out
  go_wp2_with fail
  refine (rword_w 11 ty _ _ _ _ _ _ W).mono ?_; rintro e w1 ⟨rfl, b1⟩
  have B1 := hide b1
  clear c0 c1 c2 c3 c4 c5 c6 c7 b1
  obtain ⟨c0, c1, c2, c3, c4, c5, c6, c7⟩ := box8 ((B1.out.block _ (by omega)).trans H0.out)
  obtain ⟨s0, hs0⟩ : ∃ s0, s0 = L5.iword 11 ty := ⟨_, rfl⟩
  rw [<- hs0] at hiw ⊢
  have HS0 := hide hs0
  clear hs0
  go_wp2_with fail
  refine (L5.refMakes_any 11 ty _ _ _ _ _ _ w1).mono ?_; rintro e w2 ⟨rfl, b2⟩
  have B2 := hide (below_step B1.out b2)
  clear c0 c1 c2 c3 c4 c5 c6 c7 b2
  obtain ⟨c0, c1, c2, c3, c4, c5, c6, c7⟩ := box8 ((B2.out.block _ (by omega)).trans H0.out)
  by_cases hmk : L5.imakes 11 ty = 0
  . have RT : Hid (RTail W w2 s0 (preT (11, id, n, ty, ar, tt, nm, pl))) := hide ⟨B2.out, by rw [HS0.out]; exact PN.out hmk, by omega⟩
    rw [hmk]
    clear hmk PN PY HS0 B1 B2
    obtain ⟨wq, hwq⟩ : ∃ wq, wq = w2 := ⟨_, rfl⟩
    rw [<- hwq] at RT c0 c1 c2 c3 c4 c5 c6 c7 ⊢
    clear hwq
    obtain ⟨a0, har⟩ : ∃ a0, ar[0]? = some a0 := by
      cases ar with
      | nil => exact absurd rfl (hm.out)
      | cons a0 a1 => exact ⟨a0, rfl⟩
    have AQ := hide (A0.out.below RT.out.1)
    rcases AQ.out with he | ⟨q, o, rfl, hq, hc⟩
    . exact absurd he hm.out
    have hz := RT.out.2.2
    have iA0 : I64 a0 := IA.out a0 (List.mem_of_getElem? har)
    have hcl : w.heap.size < wq.heap.size := Nat.lt_of_lt_of_le hz0 RT.out.1.size
    have ca0 : wq.cell? ⟨q, o, none⟩ = some (.int .i64 a0) := hc 0 a0 har
    have hdr : ar.drop 0 = a0 :: ar.drop 1 := by
      cases ar with
      | nil => simp at har
      | cons x r => simp at har; subst har; rfl
    have htk : ar.take 1 = [a0] := by
      cases ar with
      | nil => simp at har
      | cons x r => simp at har; subst har; rfl
    have lpos : 0 < ar.length := by
      cases ar with
      | nil => simp at har
      | cons x r => simp
    have lposI : (0 : Int) < ar.length := by omega
    have hrl : (sp ((ar.drop 1).map valW)).length <= 23000 := by
      have h1 := sp_len ((ar.drop 1).map valW) 22 fun x hx => by
        simp only [List.mem_map] at hx
        obtain ⟨n, hn, rfl⟩ := hx
        exact val_len (IA.out n (List.mem_of_mem_drop hn))
      have h2 : ((ar.drop 1).map valW).length <= 1000 := by simp; omega
      have h3 : ((ar.drop 1).map valW).length * (22 + 1) <= 1000 * 23 := Nat.mul_le_mul h2 (Nat.le_refl _)
      omega
    have HE : Hid (s0 ++ bs [32, 37] ++ bs (dig a0) ++ bs [32] ++ bs (dig n) ++ bs (sp ((ar.drop 1).map valW)) = bs (preT (11, id, n, ty, ar, tt, nm, pl) ++ sp ((ar.take 1).map valW ++ [dig n] ++ (ar.drop 1).map valW))) := hide (by
      rw [RT.out.2.1, cat_bs, cat_bs, cat_bs, cat_bs, cat_bs, htk]
      simp [sp, valW])
    obtain ⟨sa, hsa⟩ : ∃ sa, sa = bs (dig a0) := ⟨_, rfl⟩
    obtain ⟨sn, hsn⟩ : ∃ sn, sn = bs (dig n) := ⟨_, rfl⟩
    obtain ⟨sr, hsr⟩ : ∃ sr, sr = bs (sp ((ar.drop 1).map valW)) := ⟨_, rfl⟩
    have za : sa.size <= 21 := by rw [hsa, bs_size]; exact dig_len iA0
    have zn : sn.size <= 21 := by rw [hsn, bs_size]; exact dig_len iN
    have zr : sr.size <= 23000 := by rw [hsr, bs_size]; exact hrl
    have C30 : Hid (∀ w', Calls Tryz.prog 30 #[.int .i64 a0] w' fun e w'' => e = .returned (.string sa) /\ Below w'.heap.size w' w'') := hide fun w' => by rw [hsa]; exact rsmall_w a0 w' iA0
    have C37 : Hid (∀ w', Calls Tryz.prog 37 #[.int .i64 n] w' fun e w'' => e = .returned (.string sn) /\ Below w'.heap.size w' w'') := hide fun w' => by rw [hsn]; exact rprint_w n w' iN
    have C38 : Hid (∀ x, Calls Tryz.prog 38 #[.slice (some ⟨q, o, none⟩) ar.length ca, .int .i64 1] (L5.grewTo wq x) fun e w'' => e = .returned (.string sr) /\ Below (L5.grewTo wq x).heap.size (L5.grewTo wq x) w'') := hide fun x => by
      rw [hsr]; exact rargs_any ar 1 _ ca _ (AQ.out.below (L5.grewTo_below wq x)) IA.out lA (Nat.le_refl _)
    rw [<- hsa, <- hsn, <- hsr] at HE
    clear hsa hsn hsr hrl hdr htk hc har
    have h32 : (⟨#[32]⟩ : ByteArray) = bs [32] := rfl
    have h32s : (bs [32]).size = 1 := rfl
    have h37 : (⟨#[32, 37]⟩ : ByteArray) = bs [32, 37] := rfl
    have h37s : (bs [32, 37]).size = 2 := rfl
    have d2 := fun x => ((L5.grewTo_below wq x).cell (p := ⟨w.heap.size, 2, none⟩) hcl).trans c2
    have d4 := fun x => ((L5.grewTo_below wq x).cell (p := ⟨w.heap.size, 4, none⟩) hcl).trans c4
    have d0 := fun x => ((L5.grewTo_below wq x).cell (p := ⟨q, o, none⟩) hq).trans ca0
    go_wp2_with fail
    refine L5.region_grew (by kernel_rfl) (by kernel_rfl) ?_
    repeat (go_big_quiet_step ((first | (go_at_call 30; exact L5.calls_grew (C30.out _)) | (go_at_call 37; exact L5.calls_grew (C37.out _)) | (go_at_call 38; exact L5.calls_grew (C38.out _)))))
    refine wpQuiet_nil ?_
    rintro _ ⟨x, rfl⟩
    have B5 := hide (below_step RT.out.1 (L5.grewTo_below wq x))
    clear d2 d4 d0
    go_wp2_with fail
    go_ret
    exact ⟨L5.ret_str HE.out, B0.out.trans (B5.out.mono (by omega))⟩
  . have HP := hide (PY.out hmk)
    have hm1 : (L5.imakes 11 ty != 0) = true := by simpa using hmk
    generalize L5.imakes 11 ty = mk at *
    go_wp2_with fail
    refine (rsmall_w id w2 iId).mono ?_; rintro e w3 ⟨rfl, b3⟩
    have hdz : (bs (dig id)).size <= 21 := by rw [bs_size]; exact dig_len iId
    have B3 := hide (below_step B2.out b3)
    clear c0 c1 c2 c3 c4 c5 c6 c7 b3
    obtain ⟨c0, c1, c2, c3, c4, c5, c6, c7⟩ := box8 ((B3.out.block _ (by omega)).trans H0.out)
    have h37 : (⟨#[37]⟩ : ByteArray) = bs [37] := rfl
    have h61 : (⟨#[32, 61, 32]⟩ : ByteArray) = bs [32, 61, 32] := rfl
    have h37s : (bs [37]).size = 1 := rfl
    have h61s : (bs [32, 61, 32]).size = 3 := rfl
    obtain ⟨s4, hs4⟩ : ∃ s4, s4 = bs [37] ++ bs (dig id) ++ bs [32, 61, 32] ++ s0 := ⟨_, rfl⟩
    have hs4' := hs4.symm
    have hz4 : s4.size <= 60 := by rw [hs4, ByteArray.size_append, ByteArray.size_append, ByteArray.size_append]; omega
    have RT : Hid (RTail W w3 s4 (preT (11, id, n, ty, ar, tt, nm, pl))) := hide ⟨B3.out, by rw [hs4, HS0.out]; exact HP.out, hz4⟩
    clear hmk PN PY HS0 HP B1 B2 B3 hs4
    obtain ⟨wq, hwq⟩ : ∃ wq, wq = w3 := ⟨_, rfl⟩
    rw [<- hwq] at RT c0 c1 c2 c3 c4 c5 c6 c7 ⊢
    clear hwq
    generalize bs (dig id) = sg at *
    obtain ⟨a0, har⟩ : ∃ a0, ar[0]? = some a0 := by
      cases ar with
      | nil => exact absurd rfl (hm.out)
      | cons a0 a1 => exact ⟨a0, rfl⟩
    have AQ := hide (A0.out.below RT.out.1)
    rcases AQ.out with he | ⟨q, o, rfl, hq, hc⟩
    . exact absurd he hm.out
    have hz := RT.out.2.2
    have iA0 : I64 a0 := IA.out a0 (List.mem_of_getElem? har)
    have hcl : w.heap.size < wq.heap.size := Nat.lt_of_lt_of_le hz0 RT.out.1.size
    have ca0 : wq.cell? ⟨q, o, none⟩ = some (.int .i64 a0) := hc 0 a0 har
    have hdr : ar.drop 0 = a0 :: ar.drop 1 := by
      cases ar with
      | nil => simp at har
      | cons x r => simp at har; subst har; rfl
    have htk : ar.take 1 = [a0] := by
      cases ar with
      | nil => simp at har
      | cons x r => simp at har; subst har; rfl
    have lpos : 0 < ar.length := by
      cases ar with
      | nil => simp at har
      | cons x r => simp
    have lposI : (0 : Int) < ar.length := by omega
    have hrl : (sp ((ar.drop 1).map valW)).length <= 23000 := by
      have h1 := sp_len ((ar.drop 1).map valW) 22 fun x hx => by
        simp only [List.mem_map] at hx
        obtain ⟨n, hn, rfl⟩ := hx
        exact val_len (IA.out n (List.mem_of_mem_drop hn))
      have h2 : ((ar.drop 1).map valW).length <= 1000 := by simp; omega
      have h3 : ((ar.drop 1).map valW).length * (22 + 1) <= 1000 * 23 := Nat.mul_le_mul h2 (Nat.le_refl _)
      omega
    have HE : Hid (s4 ++ bs [32, 37] ++ bs (dig a0) ++ bs [32] ++ bs (dig n) ++ bs (sp ((ar.drop 1).map valW)) = bs (preT (11, id, n, ty, ar, tt, nm, pl) ++ sp ((ar.take 1).map valW ++ [dig n] ++ (ar.drop 1).map valW))) := hide (by
      rw [RT.out.2.1, cat_bs, cat_bs, cat_bs, cat_bs, cat_bs, htk]
      simp [sp, valW])
    obtain ⟨sa, hsa⟩ : ∃ sa, sa = bs (dig a0) := ⟨_, rfl⟩
    obtain ⟨sn, hsn⟩ : ∃ sn, sn = bs (dig n) := ⟨_, rfl⟩
    obtain ⟨sr, hsr⟩ : ∃ sr, sr = bs (sp ((ar.drop 1).map valW)) := ⟨_, rfl⟩
    have za : sa.size <= 21 := by rw [hsa, bs_size]; exact dig_len iA0
    have zn : sn.size <= 21 := by rw [hsn, bs_size]; exact dig_len iN
    have zr : sr.size <= 23000 := by rw [hsr, bs_size]; exact hrl
    have C30 : Hid (∀ w', Calls Tryz.prog 30 #[.int .i64 a0] w' fun e w'' => e = .returned (.string sa) /\ Below w'.heap.size w' w'') := hide fun w' => by rw [hsa]; exact rsmall_w a0 w' iA0
    have C37 : Hid (∀ w', Calls Tryz.prog 37 #[.int .i64 n] w' fun e w'' => e = .returned (.string sn) /\ Below w'.heap.size w' w'') := hide fun w' => by rw [hsn]; exact rprint_w n w' iN
    have C38 : Hid (∀ x, Calls Tryz.prog 38 #[.slice (some ⟨q, o, none⟩) ar.length ca, .int .i64 1] (L5.grewTo wq x) fun e w'' => e = .returned (.string sr) /\ Below (L5.grewTo wq x).heap.size (L5.grewTo wq x) w'') := hide fun x => by
      rw [hsr]; exact rargs_any ar 1 _ ca _ (AQ.out.below (L5.grewTo_below wq x)) IA.out lA (Nat.le_refl _)
    rw [<- hsa, <- hsn, <- hsr] at HE
    clear hsa hsn hsr hrl hdr htk hc har
    have h32 : (⟨#[32]⟩ : ByteArray) = bs [32] := rfl
    have h32s : (bs [32]).size = 1 := rfl
    have h37 : (⟨#[32, 37]⟩ : ByteArray) = bs [32, 37] := rfl
    have h37s : (bs [32, 37]).size = 2 := rfl
    have d2 := fun x => ((L5.grewTo_below wq x).cell (p := ⟨w.heap.size, 2, none⟩) hcl).trans c2
    have d4 := fun x => ((L5.grewTo_below wq x).cell (p := ⟨w.heap.size, 4, none⟩) hcl).trans c4
    have d0 := fun x => ((L5.grewTo_below wq x).cell (p := ⟨q, o, none⟩) hq).trans ca0
    go_wp2_with fail
    refine L5.region_grew (by kernel_rfl) (by kernel_rfl) ?_
    repeat (go_big_quiet_step ((first | (go_at_call 30; exact L5.calls_grew (C30.out _)) | (go_at_call 37; exact L5.calls_grew (C37.out _)) | (go_at_call 38; exact L5.calls_grew (C38.out _)))))
    refine wpQuiet_nil ?_
    rintro _ ⟨x, rfl⟩
    have B5 := hide (below_step RT.out.1 (L5.grewTo_below wq x))
    clear d2 d4 d0
    go_wp2_with fail
    go_ret
    exact ⟨L5.ret_str HE.out, B0.out.trans (B5.out.mono (by omega))⟩
theorem rins_mem12 (id n ty pl : Int) (ar tt : List Int) (nm : List UInt8) (ao to : Option Addr) (ca ct : Nat) (w : World) (hs1 : Sl w ao ar) (hs2 : Sl w to tt) (hF : Fin7 (12, id, n, ty, ar, tt, nm, pl)) :
    Calls Tryz.prog 13 #[.agg #[.int .i64 12, .int .i64 id, .int .i64 n, .int .i64 ty, .slice ao ar.length ca, .slice to tt.length ct, .string (bs nm), .int .i64 pl]] w fun e w' => e = .returned (.string (bs (preT (12, id, n, ty, ar, tt, nm, pl) ++ sp ((ar.take 1).map valW ++ [dig n] ++ (ar.drop 1).map valW)))) /\ Below w.heap.size w w' := by
  have hm : Hid (ar ≠ []) := hide (hF.2.2.2.2.2.2.2.1 (by unfold memOp; simp))
  have b0 := below_box w (o8 12 id n ty pl ao to ar.length tt.length ca ct nm)
  have H0 := hide (heap_alloc_new w (o8 12 id n ty pl ao to ar.length tt.length ca ct nm))
  have A0 := hide (hs1.below b0)
  have U0 := hide (hs2.below b0)
  have hz0 : (w.alloc (o8 12 id n ty pl ao to ar.length tt.length ca ct nm)).heap.size > w.heap.size := by simp
  have B0 := hide b0
  obtain ⟨iId, iN, iA, iT, lA, lT, lN, hq1, hq2⟩ := hF
  clear hq1 hq2
  dsimp only at iId iN iA iT lA lT lN
  have IA := hide iA
  have IT := hide iT
  have PN := hide (pre_no (x := (12, id, n, ty, ar, tt, nm, pl)))
  have PY := hide (pre_yes (x := (12, id, n, ty, ar, tt, nm, pl)))
  have hiw := iword_size 12 ty
  have hnz : (bs nm).size <= 1000 := by rw [bs_size]; exact lN
  clear b0 hs1 hs2 iA iT
  go_enter Tryz.func13, Tryz.ntmps13
  go_upto_region 1 with fail
  show Code.wp _ _ _ _ (w.alloc (o8 12 id n ty pl ao to ar.length tt.length ca ct nm))
  generalize w.alloc (o8 12 id n ty pl ao to ar.length tt.length ca ct nm) = W at *
  obtain ⟨c0, c1, c2, c3, c4, c5, c6, c7⟩ := box8 H0.out
  go_wp2_with fail
  refine (rword_w 12 ty _ _ _ _ _ _ W).mono ?_; rintro e w1 ⟨rfl, b1⟩
  have B1 := hide b1
  clear c0 c1 c2 c3 c4 c5 c6 c7 b1
  obtain ⟨c0, c1, c2, c3, c4, c5, c6, c7⟩ := box8 ((B1.out.block _ (by omega)).trans H0.out)
  obtain ⟨s0, hs0⟩ : ∃ s0, s0 = L5.iword 12 ty := ⟨_, rfl⟩
  rw [<- hs0] at hiw ⊢
  have HS0 := hide hs0
  clear hs0
  go_wp2_with fail
  refine (L5.refMakes_any 12 ty _ _ _ _ _ _ w1).mono ?_; rintro e w2 ⟨rfl, b2⟩
  have B2 := hide (below_step B1.out b2)
  clear c0 c1 c2 c3 c4 c5 c6 c7 b2
  obtain ⟨c0, c1, c2, c3, c4, c5, c6, c7⟩ := box8 ((B2.out.block _ (by omega)).trans H0.out)
  by_cases hmk : L5.imakes 12 ty = 0
  . have RT : Hid (RTail W w2 s0 (preT (12, id, n, ty, ar, tt, nm, pl))) := hide ⟨B2.out, by rw [HS0.out]; exact PN.out hmk, by omega⟩
    rw [hmk]
    clear hmk PN PY HS0 B1 B2
    obtain ⟨wq, hwq⟩ : ∃ wq, wq = w2 := ⟨_, rfl⟩
    rw [<- hwq] at RT c0 c1 c2 c3 c4 c5 c6 c7 ⊢
    clear hwq
    obtain ⟨a0, har⟩ : ∃ a0, ar[0]? = some a0 := by
      cases ar with
      | nil => exact absurd rfl (hm.out)
      | cons a0 a1 => exact ⟨a0, rfl⟩
    have AQ := hide (A0.out.below RT.out.1)
    rcases AQ.out with he | ⟨q, o, rfl, hq, hc⟩
    . exact absurd he hm.out
    have hz := RT.out.2.2
    have iA0 : I64 a0 := IA.out a0 (List.mem_of_getElem? har)
    have hcl : w.heap.size < wq.heap.size := Nat.lt_of_lt_of_le hz0 RT.out.1.size
    have ca0 : wq.cell? ⟨q, o, none⟩ = some (.int .i64 a0) := hc 0 a0 har
    have hdr : ar.drop 0 = a0 :: ar.drop 1 := by
      cases ar with
      | nil => simp at har
      | cons x r => simp at har; subst har; rfl
    have htk : ar.take 1 = [a0] := by
      cases ar with
      | nil => simp at har
      | cons x r => simp at har; subst har; rfl
    have lpos : 0 < ar.length := by
      cases ar with
      | nil => simp at har
      | cons x r => simp
    have lposI : (0 : Int) < ar.length := by omega
    have hrl : (sp ((ar.drop 1).map valW)).length <= 23000 := by
      have h1 := sp_len ((ar.drop 1).map valW) 22 fun x hx => by
        simp only [List.mem_map] at hx
        obtain ⟨n, hn, rfl⟩ := hx
        exact val_len (IA.out n (List.mem_of_mem_drop hn))
      have h2 : ((ar.drop 1).map valW).length <= 1000 := by simp; omega
      have h3 : ((ar.drop 1).map valW).length * (22 + 1) <= 1000 * 23 := Nat.mul_le_mul h2 (Nat.le_refl _)
      omega
    have HE : Hid (s0 ++ bs [32, 37] ++ bs (dig a0) ++ bs [32] ++ bs (dig n) ++ bs (sp ((ar.drop 1).map valW)) = bs (preT (12, id, n, ty, ar, tt, nm, pl) ++ sp ((ar.take 1).map valW ++ [dig n] ++ (ar.drop 1).map valW))) := hide (by
      rw [RT.out.2.1, cat_bs, cat_bs, cat_bs, cat_bs, cat_bs, htk]
      simp [sp, valW])
    obtain ⟨sa, hsa⟩ : ∃ sa, sa = bs (dig a0) := ⟨_, rfl⟩
    obtain ⟨sn, hsn⟩ : ∃ sn, sn = bs (dig n) := ⟨_, rfl⟩
    obtain ⟨sr, hsr⟩ : ∃ sr, sr = bs (sp ((ar.drop 1).map valW)) := ⟨_, rfl⟩
    have za : sa.size <= 21 := by rw [hsa, bs_size]; exact dig_len iA0
    have zn : sn.size <= 21 := by rw [hsn, bs_size]; exact dig_len iN
    have zr : sr.size <= 23000 := by rw [hsr, bs_size]; exact hrl
    have C30 : Hid (∀ w', Calls Tryz.prog 30 #[.int .i64 a0] w' fun e w'' => e = .returned (.string sa) /\ Below w'.heap.size w' w'') := hide fun w' => by rw [hsa]; exact rsmall_w a0 w' iA0
    have C37 : Hid (∀ w', Calls Tryz.prog 37 #[.int .i64 n] w' fun e w'' => e = .returned (.string sn) /\ Below w'.heap.size w' w'') := hide fun w' => by rw [hsn]; exact rprint_w n w' iN
    have C38 : Hid (∀ x, Calls Tryz.prog 38 #[.slice (some ⟨q, o, none⟩) ar.length ca, .int .i64 1] (L5.grewTo wq x) fun e w'' => e = .returned (.string sr) /\ Below (L5.grewTo wq x).heap.size (L5.grewTo wq x) w'') := hide fun x => by
      rw [hsr]; exact rargs_any ar 1 _ ca _ (AQ.out.below (L5.grewTo_below wq x)) IA.out lA (Nat.le_refl _)
    rw [<- hsa, <- hsn, <- hsr] at HE
    clear hsa hsn hsr hrl hdr htk hc har
    have h32 : (⟨#[32]⟩ : ByteArray) = bs [32] := rfl
    have h32s : (bs [32]).size = 1 := rfl
    have h37 : (⟨#[32, 37]⟩ : ByteArray) = bs [32, 37] := rfl
    have h37s : (bs [32, 37]).size = 2 := rfl
    have d2 := fun x => ((L5.grewTo_below wq x).cell (p := ⟨w.heap.size, 2, none⟩) hcl).trans c2
    have d4 := fun x => ((L5.grewTo_below wq x).cell (p := ⟨w.heap.size, 4, none⟩) hcl).trans c4
    have d0 := fun x => ((L5.grewTo_below wq x).cell (p := ⟨q, o, none⟩) hq).trans ca0
    go_wp2_with fail
    refine L5.region_grew (by kernel_rfl) (by kernel_rfl) ?_
    repeat (go_big_quiet_step ((first | (go_at_call 30; exact L5.calls_grew (C30.out _)) | (go_at_call 37; exact L5.calls_grew (C37.out _)) | (go_at_call 38; exact L5.calls_grew (C38.out _)))))
    refine wpQuiet_nil ?_
    rintro _ ⟨x, rfl⟩
    have B5 := hide (below_step RT.out.1 (L5.grewTo_below wq x))
    clear d2 d4 d0
    go_wp2_with fail
    go_ret
    exact ⟨L5.ret_str HE.out, B0.out.trans (B5.out.mono (by omega))⟩
  . have HP := hide (PY.out hmk)
    have hm1 : (L5.imakes 12 ty != 0) = true := by simpa using hmk
    generalize L5.imakes 12 ty = mk at *
    go_wp2_with fail
    refine (rsmall_w id w2 iId).mono ?_; rintro e w3 ⟨rfl, b3⟩
    have hdz : (bs (dig id)).size <= 21 := by rw [bs_size]; exact dig_len iId
    have B3 := hide (below_step B2.out b3)
    clear c0 c1 c2 c3 c4 c5 c6 c7 b3
    obtain ⟨c0, c1, c2, c3, c4, c5, c6, c7⟩ := box8 ((B3.out.block _ (by omega)).trans H0.out)
    have h37 : (⟨#[37]⟩ : ByteArray) = bs [37] := rfl
    have h61 : (⟨#[32, 61, 32]⟩ : ByteArray) = bs [32, 61, 32] := rfl
    have h37s : (bs [37]).size = 1 := rfl
    have h61s : (bs [32, 61, 32]).size = 3 := rfl
    obtain ⟨s4, hs4⟩ : ∃ s4, s4 = bs [37] ++ bs (dig id) ++ bs [32, 61, 32] ++ s0 := ⟨_, rfl⟩
    have hs4' := hs4.symm
    have hz4 : s4.size <= 60 := by rw [hs4, ByteArray.size_append, ByteArray.size_append, ByteArray.size_append]; omega
    have RT : Hid (RTail W w3 s4 (preT (12, id, n, ty, ar, tt, nm, pl))) := hide ⟨B3.out, by rw [hs4, HS0.out]; exact HP.out, hz4⟩
    clear hmk PN PY HS0 HP B1 B2 B3 hs4
    obtain ⟨wq, hwq⟩ : ∃ wq, wq = w3 := ⟨_, rfl⟩
    rw [<- hwq] at RT c0 c1 c2 c3 c4 c5 c6 c7 ⊢
    clear hwq
    generalize bs (dig id) = sg at *
    obtain ⟨a0, har⟩ : ∃ a0, ar[0]? = some a0 := by
      cases ar with
      | nil => exact absurd rfl (hm.out)
      | cons a0 a1 => exact ⟨a0, rfl⟩
    have AQ := hide (A0.out.below RT.out.1)
    rcases AQ.out with he | ⟨q, o, rfl, hq, hc⟩
    . exact absurd he hm.out
    have hz := RT.out.2.2
    have iA0 : I64 a0 := IA.out a0 (List.mem_of_getElem? har)
    have hcl : w.heap.size < wq.heap.size := Nat.lt_of_lt_of_le hz0 RT.out.1.size
    have ca0 : wq.cell? ⟨q, o, none⟩ = some (.int .i64 a0) := hc 0 a0 har
    have hdr : ar.drop 0 = a0 :: ar.drop 1 := by
      cases ar with
      | nil => simp at har
      | cons x r => simp at har; subst har; rfl
    have htk : ar.take 1 = [a0] := by
      cases ar with
      | nil => simp at har
      | cons x r => simp at har; subst har; rfl
    have lpos : 0 < ar.length := by
      cases ar with
      | nil => simp at har
      | cons x r => simp
    have lposI : (0 : Int) < ar.length := by omega
    have hrl : (sp ((ar.drop 1).map valW)).length <= 23000 := by
      have h1 := sp_len ((ar.drop 1).map valW) 22 fun x hx => by
        simp only [List.mem_map] at hx
        obtain ⟨n, hn, rfl⟩ := hx
        exact val_len (IA.out n (List.mem_of_mem_drop hn))
      have h2 : ((ar.drop 1).map valW).length <= 1000 := by simp; omega
      have h3 : ((ar.drop 1).map valW).length * (22 + 1) <= 1000 * 23 := Nat.mul_le_mul h2 (Nat.le_refl _)
      omega
    have HE : Hid (s4 ++ bs [32, 37] ++ bs (dig a0) ++ bs [32] ++ bs (dig n) ++ bs (sp ((ar.drop 1).map valW)) = bs (preT (12, id, n, ty, ar, tt, nm, pl) ++ sp ((ar.take 1).map valW ++ [dig n] ++ (ar.drop 1).map valW))) := hide (by
      rw [RT.out.2.1, cat_bs, cat_bs, cat_bs, cat_bs, cat_bs, htk]
      simp [sp, valW])
    obtain ⟨sa, hsa⟩ : ∃ sa, sa = bs (dig a0) := ⟨_, rfl⟩
    obtain ⟨sn, hsn⟩ : ∃ sn, sn = bs (dig n) := ⟨_, rfl⟩
    obtain ⟨sr, hsr⟩ : ∃ sr, sr = bs (sp ((ar.drop 1).map valW)) := ⟨_, rfl⟩
    have za : sa.size <= 21 := by rw [hsa, bs_size]; exact dig_len iA0
    have zn : sn.size <= 21 := by rw [hsn, bs_size]; exact dig_len iN
    have zr : sr.size <= 23000 := by rw [hsr, bs_size]; exact hrl
    have C30 : Hid (∀ w', Calls Tryz.prog 30 #[.int .i64 a0] w' fun e w'' => e = .returned (.string sa) /\ Below w'.heap.size w' w'') := hide fun w' => by rw [hsa]; exact rsmall_w a0 w' iA0
    have C37 : Hid (∀ w', Calls Tryz.prog 37 #[.int .i64 n] w' fun e w'' => e = .returned (.string sn) /\ Below w'.heap.size w' w'') := hide fun w' => by rw [hsn]; exact rprint_w n w' iN
    have C38 : Hid (∀ x, Calls Tryz.prog 38 #[.slice (some ⟨q, o, none⟩) ar.length ca, .int .i64 1] (L5.grewTo wq x) fun e w'' => e = .returned (.string sr) /\ Below (L5.grewTo wq x).heap.size (L5.grewTo wq x) w'') := hide fun x => by
      rw [hsr]; exact rargs_any ar 1 _ ca _ (AQ.out.below (L5.grewTo_below wq x)) IA.out lA (Nat.le_refl _)
    rw [<- hsa, <- hsn, <- hsr] at HE
    clear hsa hsn hsr hrl hdr htk hc har
    have h32 : (⟨#[32]⟩ : ByteArray) = bs [32] := rfl
    have h32s : (bs [32]).size = 1 := rfl
    have h37 : (⟨#[32, 37]⟩ : ByteArray) = bs [32, 37] := rfl
    have h37s : (bs [32, 37]).size = 2 := rfl
    have d2 := fun x => ((L5.grewTo_below wq x).cell (p := ⟨w.heap.size, 2, none⟩) hcl).trans c2
    have d4 := fun x => ((L5.grewTo_below wq x).cell (p := ⟨w.heap.size, 4, none⟩) hcl).trans c4
    have d0 := fun x => ((L5.grewTo_below wq x).cell (p := ⟨q, o, none⟩) hq).trans ca0
    go_wp2_with fail
    refine L5.region_grew (by kernel_rfl) (by kernel_rfl) ?_
    repeat (go_big_quiet_step ((first | (go_at_call 30; exact L5.calls_grew (C30.out _)) | (go_at_call 37; exact L5.calls_grew (C37.out _)) | (go_at_call 38; exact L5.calls_grew (C38.out _)))))
    refine wpQuiet_nil ?_
    rintro _ ⟨x, rfl⟩
    have B5 := hide (below_step RT.out.1 (L5.grewTo_below wq x))
    clear d2 d4 d0
    go_wp2_with fail
    go_ret
    exact ⟨L5.ret_str HE.out, B0.out.trans (B5.out.mono (by omega))⟩
theorem rins_mem15 (id n ty pl : Int) (ar tt : List Int) (nm : List UInt8) (ao to : Option Addr) (ca ct : Nat) (w : World) (hs1 : Sl w ao ar) (hs2 : Sl w to tt) (hF : Fin7 (15, id, n, ty, ar, tt, nm, pl)) :
    Calls Tryz.prog 13 #[.agg #[.int .i64 15, .int .i64 id, .int .i64 n, .int .i64 ty, .slice ao ar.length ca, .slice to tt.length ct, .string (bs nm), .int .i64 pl]] w fun e w' => e = .returned (.string (bs (preT (15, id, n, ty, ar, tt, nm, pl) ++ sp ((ar.take 1).map valW ++ [dig n] ++ (ar.drop 1).map valW)))) /\ Below w.heap.size w w' := by
  have hm : Hid (ar ≠ []) := hide (hF.2.2.2.2.2.2.2.1 (by unfold memOp; simp))
  have b0 := below_box w (o8 15 id n ty pl ao to ar.length tt.length ca ct nm)
  have H0 := hide (heap_alloc_new w (o8 15 id n ty pl ao to ar.length tt.length ca ct nm))
  have A0 := hide (hs1.below b0)
  have U0 := hide (hs2.below b0)
  have hz0 : (w.alloc (o8 15 id n ty pl ao to ar.length tt.length ca ct nm)).heap.size > w.heap.size := by simp
  have B0 := hide b0
  obtain ⟨iId, iN, iA, iT, lA, lT, lN, hq1, hq2⟩ := hF
  clear hq1 hq2
  dsimp only at iId iN iA iT lA lT lN
  have IA := hide iA
  have IT := hide iT
  have PN := hide (pre_no (x := (15, id, n, ty, ar, tt, nm, pl)))
  have PY := hide (pre_yes (x := (15, id, n, ty, ar, tt, nm, pl)))
  have hiw := iword_size 15 ty
  have hnz : (bs nm).size <= 1000 := by rw [bs_size]; exact lN
  clear b0 hs1 hs2 iA iT
  go_enter Tryz.func13, Tryz.ntmps13
  go_upto_region 1 with fail
  show Code.wp _ _ _ _ (w.alloc (o8 15 id n ty pl ao to ar.length tt.length ca ct nm))
  generalize w.alloc (o8 15 id n ty pl ao to ar.length tt.length ca ct nm) = W at *
  obtain ⟨c0, c1, c2, c3, c4, c5, c6, c7⟩ := box8 H0.out
  go_wp2_with fail
  refine (rword_w 15 ty _ _ _ _ _ _ W).mono ?_; rintro e w1 ⟨rfl, b1⟩
  have B1 := hide b1
  clear c0 c1 c2 c3 c4 c5 c6 c7 b1
  obtain ⟨c0, c1, c2, c3, c4, c5, c6, c7⟩ := box8 ((B1.out.block _ (by omega)).trans H0.out)
  obtain ⟨s0, hs0⟩ : ∃ s0, s0 = L5.iword 15 ty := ⟨_, rfl⟩
  rw [<- hs0] at hiw ⊢
  have HS0 := hide hs0
  clear hs0
  go_wp2_with fail
  refine (L5.refMakes_any 15 ty _ _ _ _ _ _ w1).mono ?_; rintro e w2 ⟨rfl, b2⟩
  have B2 := hide (below_step B1.out b2)
  clear c0 c1 c2 c3 c4 c5 c6 c7 b2
  obtain ⟨c0, c1, c2, c3, c4, c5, c6, c7⟩ := box8 ((B2.out.block _ (by omega)).trans H0.out)
  by_cases hmk : L5.imakes 15 ty = 0
  . have RT : Hid (RTail W w2 s0 (preT (15, id, n, ty, ar, tt, nm, pl))) := hide ⟨B2.out, by rw [HS0.out]; exact PN.out hmk, by omega⟩
    rw [hmk]
    clear hmk PN PY HS0 B1 B2
    obtain ⟨wq, hwq⟩ : ∃ wq, wq = w2 := ⟨_, rfl⟩
    rw [<- hwq] at RT c0 c1 c2 c3 c4 c5 c6 c7 ⊢
    clear hwq
    obtain ⟨a0, har⟩ : ∃ a0, ar[0]? = some a0 := by
      cases ar with
      | nil => exact absurd rfl (hm.out)
      | cons a0 a1 => exact ⟨a0, rfl⟩
    have AQ := hide (A0.out.below RT.out.1)
    rcases AQ.out with he | ⟨q, o, rfl, hq, hc⟩
    . exact absurd he hm.out
    have hz := RT.out.2.2
    have iA0 : I64 a0 := IA.out a0 (List.mem_of_getElem? har)
    have hcl : w.heap.size < wq.heap.size := Nat.lt_of_lt_of_le hz0 RT.out.1.size
    have ca0 : wq.cell? ⟨q, o, none⟩ = some (.int .i64 a0) := hc 0 a0 har
    have hdr : ar.drop 0 = a0 :: ar.drop 1 := by
      cases ar with
      | nil => simp at har
      | cons x r => simp at har; subst har; rfl
    have htk : ar.take 1 = [a0] := by
      cases ar with
      | nil => simp at har
      | cons x r => simp at har; subst har; rfl
    have lpos : 0 < ar.length := by
      cases ar with
      | nil => simp at har
      | cons x r => simp
    have lposI : (0 : Int) < ar.length := by omega
    have hrl : (sp ((ar.drop 1).map valW)).length <= 23000 := by
      have h1 := sp_len ((ar.drop 1).map valW) 22 fun x hx => by
        simp only [List.mem_map] at hx
        obtain ⟨n, hn, rfl⟩ := hx
        exact val_len (IA.out n (List.mem_of_mem_drop hn))
      have h2 : ((ar.drop 1).map valW).length <= 1000 := by simp; omega
      have h3 : ((ar.drop 1).map valW).length * (22 + 1) <= 1000 * 23 := Nat.mul_le_mul h2 (Nat.le_refl _)
      omega
    have HE : Hid (s0 ++ bs [32, 37] ++ bs (dig a0) ++ bs [32] ++ bs (dig n) ++ bs (sp ((ar.drop 1).map valW)) = bs (preT (15, id, n, ty, ar, tt, nm, pl) ++ sp ((ar.take 1).map valW ++ [dig n] ++ (ar.drop 1).map valW))) := hide (by
      rw [RT.out.2.1, cat_bs, cat_bs, cat_bs, cat_bs, cat_bs, htk]
      simp [sp, valW])
    obtain ⟨sa, hsa⟩ : ∃ sa, sa = bs (dig a0) := ⟨_, rfl⟩
    obtain ⟨sn, hsn⟩ : ∃ sn, sn = bs (dig n) := ⟨_, rfl⟩
    obtain ⟨sr, hsr⟩ : ∃ sr, sr = bs (sp ((ar.drop 1).map valW)) := ⟨_, rfl⟩
    have za : sa.size <= 21 := by rw [hsa, bs_size]; exact dig_len iA0
    have zn : sn.size <= 21 := by rw [hsn, bs_size]; exact dig_len iN
    have zr : sr.size <= 23000 := by rw [hsr, bs_size]; exact hrl
    have C30 : Hid (∀ w', Calls Tryz.prog 30 #[.int .i64 a0] w' fun e w'' => e = .returned (.string sa) /\ Below w'.heap.size w' w'') := hide fun w' => by rw [hsa]; exact rsmall_w a0 w' iA0
    have C37 : Hid (∀ w', Calls Tryz.prog 37 #[.int .i64 n] w' fun e w'' => e = .returned (.string sn) /\ Below w'.heap.size w' w'') := hide fun w' => by rw [hsn]; exact rprint_w n w' iN
    have C38 : Hid (∀ x, Calls Tryz.prog 38 #[.slice (some ⟨q, o, none⟩) ar.length ca, .int .i64 1] (L5.grewTo wq x) fun e w'' => e = .returned (.string sr) /\ Below (L5.grewTo wq x).heap.size (L5.grewTo wq x) w'') := hide fun x => by
      rw [hsr]; exact rargs_any ar 1 _ ca _ (AQ.out.below (L5.grewTo_below wq x)) IA.out lA (Nat.le_refl _)
    rw [<- hsa, <- hsn, <- hsr] at HE
    clear hsa hsn hsr hrl hdr htk hc har
    have h32 : (⟨#[32]⟩ : ByteArray) = bs [32] := rfl
    have h32s : (bs [32]).size = 1 := rfl
    have h37 : (⟨#[32, 37]⟩ : ByteArray) = bs [32, 37] := rfl
    have h37s : (bs [32, 37]).size = 2 := rfl
    have d2 := fun x => ((L5.grewTo_below wq x).cell (p := ⟨w.heap.size, 2, none⟩) hcl).trans c2
    have d4 := fun x => ((L5.grewTo_below wq x).cell (p := ⟨w.heap.size, 4, none⟩) hcl).trans c4
    have d0 := fun x => ((L5.grewTo_below wq x).cell (p := ⟨q, o, none⟩) hq).trans ca0
    go_wp2_with fail
    refine L5.region_grew (by kernel_rfl) (by kernel_rfl) ?_
    repeat (go_big_quiet_step ((first | (go_at_call 30; exact L5.calls_grew (C30.out _)) | (go_at_call 37; exact L5.calls_grew (C37.out _)) | (go_at_call 38; exact L5.calls_grew (C38.out _)))))
    refine wpQuiet_nil ?_
    rintro _ ⟨x, rfl⟩
    have B5 := hide (below_step RT.out.1 (L5.grewTo_below wq x))
    clear d2 d4 d0
    go_wp2_with fail
    go_ret
    exact ⟨L5.ret_str HE.out, B0.out.trans (B5.out.mono (by omega))⟩
  . have HP := hide (PY.out hmk)
    have hm1 : (L5.imakes 15 ty != 0) = true := by simpa using hmk
    generalize L5.imakes 15 ty = mk at *
    go_wp2_with fail
    refine (rsmall_w id w2 iId).mono ?_; rintro e w3 ⟨rfl, b3⟩
    have hdz : (bs (dig id)).size <= 21 := by rw [bs_size]; exact dig_len iId
    have B3 := hide (below_step B2.out b3)
    clear c0 c1 c2 c3 c4 c5 c6 c7 b3
    obtain ⟨c0, c1, c2, c3, c4, c5, c6, c7⟩ := box8 ((B3.out.block _ (by omega)).trans H0.out)
    have h37 : (⟨#[37]⟩ : ByteArray) = bs [37] := rfl
    have h61 : (⟨#[32, 61, 32]⟩ : ByteArray) = bs [32, 61, 32] := rfl
    have h37s : (bs [37]).size = 1 := rfl
    have h61s : (bs [32, 61, 32]).size = 3 := rfl
    obtain ⟨s4, hs4⟩ : ∃ s4, s4 = bs [37] ++ bs (dig id) ++ bs [32, 61, 32] ++ s0 := ⟨_, rfl⟩
    have hs4' := hs4.symm
    have hz4 : s4.size <= 60 := by rw [hs4, ByteArray.size_append, ByteArray.size_append, ByteArray.size_append]; omega
    have RT : Hid (RTail W w3 s4 (preT (15, id, n, ty, ar, tt, nm, pl))) := hide ⟨B3.out, by rw [hs4, HS0.out]; exact HP.out, hz4⟩
    clear hmk PN PY HS0 HP B1 B2 B3 hs4
    obtain ⟨wq, hwq⟩ : ∃ wq, wq = w3 := ⟨_, rfl⟩
    rw [<- hwq] at RT c0 c1 c2 c3 c4 c5 c6 c7 ⊢
    clear hwq
    generalize bs (dig id) = sg at *
    obtain ⟨a0, har⟩ : ∃ a0, ar[0]? = some a0 := by
      cases ar with
      | nil => exact absurd rfl (hm.out)
      | cons a0 a1 => exact ⟨a0, rfl⟩
    have AQ := hide (A0.out.below RT.out.1)
    rcases AQ.out with he | ⟨q, o, rfl, hq, hc⟩
    . exact absurd he hm.out
    have hz := RT.out.2.2
    have iA0 : I64 a0 := IA.out a0 (List.mem_of_getElem? har)
    have hcl : w.heap.size < wq.heap.size := Nat.lt_of_lt_of_le hz0 RT.out.1.size
    have ca0 : wq.cell? ⟨q, o, none⟩ = some (.int .i64 a0) := hc 0 a0 har
    have hdr : ar.drop 0 = a0 :: ar.drop 1 := by
      cases ar with
      | nil => simp at har
      | cons x r => simp at har; subst har; rfl
    have htk : ar.take 1 = [a0] := by
      cases ar with
      | nil => simp at har
      | cons x r => simp at har; subst har; rfl
    have lpos : 0 < ar.length := by
      cases ar with
      | nil => simp at har
      | cons x r => simp
    have lposI : (0 : Int) < ar.length := by omega
    have hrl : (sp ((ar.drop 1).map valW)).length <= 23000 := by
      have h1 := sp_len ((ar.drop 1).map valW) 22 fun x hx => by
        simp only [List.mem_map] at hx
        obtain ⟨n, hn, rfl⟩ := hx
        exact val_len (IA.out n (List.mem_of_mem_drop hn))
      have h2 : ((ar.drop 1).map valW).length <= 1000 := by simp; omega
      have h3 : ((ar.drop 1).map valW).length * (22 + 1) <= 1000 * 23 := Nat.mul_le_mul h2 (Nat.le_refl _)
      omega
    have HE : Hid (s4 ++ bs [32, 37] ++ bs (dig a0) ++ bs [32] ++ bs (dig n) ++ bs (sp ((ar.drop 1).map valW)) = bs (preT (15, id, n, ty, ar, tt, nm, pl) ++ sp ((ar.take 1).map valW ++ [dig n] ++ (ar.drop 1).map valW))) := hide (by
      rw [RT.out.2.1, cat_bs, cat_bs, cat_bs, cat_bs, cat_bs, htk]
      simp [sp, valW])
    obtain ⟨sa, hsa⟩ : ∃ sa, sa = bs (dig a0) := ⟨_, rfl⟩
    obtain ⟨sn, hsn⟩ : ∃ sn, sn = bs (dig n) := ⟨_, rfl⟩
    obtain ⟨sr, hsr⟩ : ∃ sr, sr = bs (sp ((ar.drop 1).map valW)) := ⟨_, rfl⟩
    have za : sa.size <= 21 := by rw [hsa, bs_size]; exact dig_len iA0
    have zn : sn.size <= 21 := by rw [hsn, bs_size]; exact dig_len iN
    have zr : sr.size <= 23000 := by rw [hsr, bs_size]; exact hrl
    have C30 : Hid (∀ w', Calls Tryz.prog 30 #[.int .i64 a0] w' fun e w'' => e = .returned (.string sa) /\ Below w'.heap.size w' w'') := hide fun w' => by rw [hsa]; exact rsmall_w a0 w' iA0
    have C37 : Hid (∀ w', Calls Tryz.prog 37 #[.int .i64 n] w' fun e w'' => e = .returned (.string sn) /\ Below w'.heap.size w' w'') := hide fun w' => by rw [hsn]; exact rprint_w n w' iN
    have C38 : Hid (∀ x, Calls Tryz.prog 38 #[.slice (some ⟨q, o, none⟩) ar.length ca, .int .i64 1] (L5.grewTo wq x) fun e w'' => e = .returned (.string sr) /\ Below (L5.grewTo wq x).heap.size (L5.grewTo wq x) w'') := hide fun x => by
      rw [hsr]; exact rargs_any ar 1 _ ca _ (AQ.out.below (L5.grewTo_below wq x)) IA.out lA (Nat.le_refl _)
    rw [<- hsa, <- hsn, <- hsr] at HE
    clear hsa hsn hsr hrl hdr htk hc har
    have h32 : (⟨#[32]⟩ : ByteArray) = bs [32] := rfl
    have h32s : (bs [32]).size = 1 := rfl
    have h37 : (⟨#[32, 37]⟩ : ByteArray) = bs [32, 37] := rfl
    have h37s : (bs [32, 37]).size = 2 := rfl
    have d2 := fun x => ((L5.grewTo_below wq x).cell (p := ⟨w.heap.size, 2, none⟩) hcl).trans c2
    have d4 := fun x => ((L5.grewTo_below wq x).cell (p := ⟨w.heap.size, 4, none⟩) hcl).trans c4
    have d0 := fun x => ((L5.grewTo_below wq x).cell (p := ⟨q, o, none⟩) hq).trans ca0
    go_wp2_with fail
    refine L5.region_grew (by kernel_rfl) (by kernel_rfl) ?_
    repeat (go_big_quiet_step ((first | (go_at_call 30; exact L5.calls_grew (C30.out _)) | (go_at_call 37; exact L5.calls_grew (C37.out _)) | (go_at_call 38; exact L5.calls_grew (C38.out _)))))
    refine wpQuiet_nil ?_
    rintro _ ⟨x, rfl⟩
    have B5 := hide (below_step RT.out.1 (L5.grewTo_below wq x))
    clear d2 d4 d0
    go_wp2_with fail
    go_ret
    exact ⟨L5.ret_str HE.out, B0.out.trans (B5.out.mono (by omega))⟩
end Go.Proofs.YtahhbckccdigoaaGreatDoor
