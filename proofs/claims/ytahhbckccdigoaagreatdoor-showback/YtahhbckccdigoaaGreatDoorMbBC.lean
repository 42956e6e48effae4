/- Layer 7, the reference: an instruction as a text: numbers, shapes, all others. -/
import Derived.Test.YtahhbckccdigoaaGreatDoorMbAW
import Derived.Test.YtahhbckccdigoaaGreatDoorMbAX
import Derived.Test.YtahhbckccdigoaaGreatDoorMbBB
set_option maxHeartbeats 8000000
set_option maxRecDepth 20000
namespace Go.Proofs.YtahhbckccdigoaaGreatDoor
open Go Go.RowKit
open G (Tok Er Ins Fun)
def preT (x : Ins) : List UInt8 := (if L5.imakes x.1 x.2.2.2.1 ≠ 0 then valW x.2.1 ++ [32, 61, 32] else []) ++ (L5.iword x.1 x.2.2.2.1).data.toList
theorem insT_eq (x : Ins) : insT x = preT x ++ sp (opdW x) := by
  unfold insT insW preT
  split
  . simp [jn, sp]
  . simp [jn, sp]
theorem rword_w (op t : Int) (a b c d e f : Value) (w : World) : Calls Tryz.prog 35 #[.agg #[.int .i64 op, a, b, .int .i64 t, c, d, e, f]] w fun e w' => e = .returned (.string (L5.iword op t)) /\ Below w.heap.size w w' := L5.refWordI_any op t a b c d e f w
theorem iword_size (op t : Int) : (L5.iword op t).size <= 9 := by
  have := iword_len op t
  simpa using this
def RTail (W w : World) (s : ByteArray) (pre : List UInt8) : Prop := Below W.heap.size W w /\ s = bs pre /\ s.size <= 60
theorem pre_no {x : Ins} (h : L5.imakes x.1 x.2.2.2.1 = 0) : L5.iword x.1 x.2.2.2.1 = bs (preT x) := by
  unfold preT; rw [if_neg (by simp [h]), List.nil_append, bs_of]
theorem pre_yes {x : Ins} (h : L5.imakes x.1 x.2.2.2.1 ≠ 0) : bs [37] ++ bs (dig x.2.1) ++ bs [32, 61, 32] ++ L5.iword x.1 x.2.2.2.1 = bs (preT x) := by
  unfold preT
  rw [if_pos h, <- bs_of (L5.iword x.1 x.2.2.2.1), cat_bs, cat_bs, cat_bs, bs_data]
  rfl
theorem rins_num1 (id n ty pl : Int) (ar tt : List Int) (nm : List UInt8) (ao to : Option Addr) (ca ct : Nat) (w : World) (hs1 : Sl w ao ar) (hs2 : Sl w to tt) (hF : Fin7 (1, id, n, ty, ar, tt, nm, pl)) :
    Calls Tryz.prog 13 #[.agg #[.int .i64 1, .int .i64 id, .int .i64 n, .int .i64 ty, .slice ao ar.length ca, .slice to tt.length ct, .string (bs nm), .int .i64 pl]] w fun e w' => e = .returned (.string (bs (preT (1, id, n, ty, ar, tt, nm, pl) ++ sp ([dig n])))) /\ Below w.heap.size w w' := by
  have b0 := below_box w (o8 1 id n ty pl ao to ar.length tt.length ca ct nm)
  have H0 := hide (heap_alloc_new w (o8 1 id n ty pl ao to ar.length tt.length ca ct nm))
  have A0 := hide (hs1.below b0)
  have U0 := hide (hs2.below b0)
  have hz0 : (w.alloc (o8 1 id n ty pl ao to ar.length tt.length ca ct nm)).heap.size > w.heap.size := by simp
  have B0 := hide b0
  obtain ⟨iId, iN, iA, iT, lA, lT, lN, hq1, hq2⟩ := hF
  clear hq1 hq2
  dsimp only at iId iN iA iT lA lT lN
  have IA := hide iA
  have IT := hide iT
  have PN := hide (pre_no (x := (1, id, n, ty, ar, tt, nm, pl)))
  have PY := hide (pre_yes (x := (1, id, n, ty, ar, tt, nm, pl)))
  have hiw := iword_size 1 ty
  have hnz : (bs nm).size <= 1000 := by rw [bs_size]; exact lN
  clear b0 hs1 hs2 iA iT
  go_enter Tryz.func13, Tryz.ntmps13
  go_upto_region 1 with fail
  show Code.wp _ _ _ _ (w.alloc (o8 1 id n ty pl ao to ar.length tt.length ca ct nm))
  generalize w.alloc (o8 1 id n ty pl ao to ar.length tt.length ca ct nm) = W at *
  obtain ⟨c0, c1, c2, c3, c4, c5, c6, c7⟩ := box8 H0.out
  go_wp2_with fail
  refine (rword_w 1 ty _ _ _ _ _ _ W).mono ?_; rintro e w1 ⟨rfl, b1⟩
  have B1 := hide b1
  clear c0 c1 c2 c3 c4 c5 c6 c7 b1
  obtain ⟨c0, c1, c2, c3, c4, c5, c6, c7⟩ := box8 ((B1.out.block _ (by omega)).trans H0.out)
  obtain ⟨s0, hs0⟩ : ∃ s0, s0 = L5.iword 1 ty := ⟨_, rfl⟩
  rw [<- hs0] at hiw ⊢
  have HS0 := hide hs0
  clear hs0
  go_wp2_with fail
  refine (L5.refMakes_any 1 ty _ _ _ _ _ _ w1).mono ?_; rintro e w2 ⟨rfl, b2⟩
  have B2 := hide (below_step B1.out b2)
  clear c0 c1 c2 c3 c4 c5 c6 c7 b2
  obtain ⟨c0, c1, c2, c3, c4, c5, c6, c7⟩ := box8 ((B2.out.block _ (by omega)).trans H0.out)
  by_cases hmk : L5.imakes 1 ty = 0
  . have RT : Hid (RTail W w2 s0 (preT (1, id, n, ty, ar, tt, nm, pl))) := hide ⟨B2.out, by rw [HS0.out]; exact PN.out hmk, by omega⟩
    rw [hmk]
    clear hmk PN PY HS0 B1 B2
    obtain ⟨wq, hwq⟩ : ∃ wq, wq = w2 := ⟨_, rfl⟩
    rw [<- hwq] at RT c0 c1 c2 c3 c4 c5 c6 c7 ⊢
    clear hwq
    go_wp2_with fail
    refine (rprint_w n wq iN).mono ?_; rintro e w5 ⟨rfl, b5⟩
    have B5 := hide (below_step RT.out.1 b5)
    have h32 : (⟨#[32]⟩ : ByteArray) = bs [32] := rfl
    have h32s : (bs [32]).size = 1 := rfl
    have hz := RT.out.2.2
    have hnd : (bs (dig n)).size <= 21 := by rw [bs_size]; exact dig_len iN
    have HE : Hid (s0 ++ bs [32] ++ bs (dig n) = bs (preT (1, id, n, ty, ar, tt, nm, pl) ++ sp [dig n])) := hide (by rw [RT.out.2.1, cat_bs, cat_bs]; simp [sp])
    generalize bs (dig n) = sn at *
    go_wp2_with fail
    go_ret
    exact ⟨L5.ret_str HE.out, B0.out.trans (B5.out.mono (by omega))⟩
  . have HP := hide (PY.out hmk)
    have hm1 : (L5.imakes 1 ty != 0) = true := by simpa using hmk
    generalize L5.imakes 1 ty = mk at *
    go_wp2_with fail
    refine (rsmall_w id w2 iId).mono ?_; rintro e w3 ⟨rfl, b3⟩
    have hdz : (bs (dig id)).size <= 21 := by rw [bs_size]; exact dig_len iId
    have B3 := hide (below_step B2.out b3)
    clear c0 c1 c2 c3 c4 c5 c6 c7 b3
    obtain ⟨c0, c1, c2, c3, c4, c5, c6, c7⟩ := box8 ((B3.out.block _ (by omega)).trans H0.out)
    have h37 : (⟨#[37]⟩ : ByteArray) = bs [37] := rfl
    have h61 : (⟨#[32, 61, 32]⟩ : ByteArray) = bs [32, 61, 32] := rfl
    have h37s : (bs [37]).size = 1 := rfl
    have h61s : (bs [32, 61, 32]).size = 3 := rfl
    obtain ⟨s4, hs4⟩ : ∃ s4, s4 = bs [37] ++ bs (dig id) ++ bs [32, 61, 32] ++ s0 := ⟨_, rfl⟩
    have hs4' := hs4.symm
    have hz4 : s4.size <= 60 := by rw [hs4, ByteArray.size_append, ByteArray.size_append, ByteArray.size_append]; omega
    have RT : Hid (RTail W w3 s4 (preT (1, id, n, ty, ar, tt, nm, pl))) := hide ⟨B3.out, by rw [hs4, HS0.out]; exact HP.out, hz4⟩
    clear hmk PN PY HS0 HP B1 B2 B3 hs4
    obtain ⟨wq, hwq⟩ : ∃ wq, wq = w3 := ⟨_, rfl⟩
    rw [<- hwq] at RT c0 c1 c2 c3 c4 c5 c6 c7 ⊢
    clear hwq
    generalize bs (dig id) = sg at *
    go_wp2_with fail
    refine (rprint_w n wq iN).mono ?_; rintro e w5 ⟨rfl, b5⟩
    have B5 := hide (below_step RT.out.1 b5)
    have h32 : (⟨#[32]⟩ : ByteArray) = bs [32] := rfl
    have h32s : (bs [32]).size = 1 := rfl
    have hz := RT.out.2.2
    have hnd : (bs (dig n)).size <= 21 := by rw [bs_size]; exact dig_len iN
    have HE : Hid (s4 ++ bs [32] ++ bs (dig n) = bs (preT (1, id, n, ty, ar, tt, nm, pl) ++ sp [dig n])) := hide (by rw [RT.out.2.1, cat_bs, cat_bs]; simp [sp])
    generalize bs (dig n) = sn at *
    go_wp2_with fail
    go_ret
    exact ⟨L5.ret_str HE.out, B0.out.trans (B5.out.mono (by omega))⟩
theorem rins_num23 (id n ty pl : Int) (ar tt : List Int) (nm : List UInt8) (ao to : Option Addr) (ca ct : Nat) (w : World) (hs1 : Sl w ao ar) (hs2 : Sl w to tt) (hF : Fin7 (23, id, n, ty, ar, tt, nm, pl)) :
    Calls Tryz.prog 13 #[.agg #[.int .i64 23, .int .i64 id, .int .i64 n, .int .i64 ty, .slice ao ar.length ca, .slice to tt.length ct, .string (bs nm), .int .i64 pl]] w fun e w' => e = .returned (.string (bs (preT (23, id, n, ty, ar, tt, nm, pl) ++ sp ([dig n])))) /\ Below w.heap.size w w' := by
  have b0 := below_box w (o8 23 id n ty pl ao to ar.length tt.length ca ct nm)
  have H0 := hide (heap_alloc_new w (o8 23 id n ty pl ao to ar.length tt.length ca ct nm))
  have A0 := hide (hs1.below b0)
  have U0 := hide (hs2.below b0)
  have hz0 : (w.alloc (o8 23 id n ty pl ao to ar.length tt.length ca ct nm)).heap.size > w.heap.size := by simp
  have B0 := hide b0
  obtain ⟨iId, iN, iA, iT, lA, lT, lN, hq1, hq2⟩ := hF
  clear hq1 hq2
  dsimp only at iId iN iA iT lA lT lN
  have IA := hide iA
  have IT := hide iT
  have PN := hide (pre_no (x := (23, id, n, ty, ar, tt, nm, pl)))
  have PY := hide (pre_yes (x := (23, id, n, ty, ar, tt, nm, pl)))
  have hiw := iword_size 23 ty
  have hnz : (bs nm).size <= 1000 := by rw [bs_size]; exact lN
  clear b0 hs1 hs2 iA iT
  go_enter Tryz.func13, Tryz.ntmps13
  go_upto_region 1 with fail
  show Code.wp _ _ _ _ (w.alloc (o8 23 id n ty pl ao to ar.length tt.length ca ct nm))
  generalize w.alloc (o8 23 id n ty pl ao to ar.length tt.length ca ct nm) = W at *
  obtain ⟨c0, c1, c2, c3, c4, c5, c6, c7⟩ := box8 H0.out
  go_wp2_with fail
  refine (rword_w 23 ty _ _ _ _ _ _ W).mono ?_; rintro e w1 ⟨rfl, b1⟩
  have B1 := hide b1
  clear c0 c1 c2 c3 c4 c5 c6 c7 b1
  obtain ⟨c0, c1, c2, c3, c4, c5, c6, c7⟩ := box8 ((B1.out.block _ (by omega)).trans H0.out)
  obtain ⟨s0, hs0⟩ : ∃ s0, s0 = L5.iword 23 ty := ⟨_, rfl⟩
  rw [<- hs0] at hiw ⊢
  have HS0 := hide hs0
  clear hs0
  go_wp2_with fail
  refine (L5.refMakes_any 23 ty _ _ _ _ _ _ w1).mono ?_; rintro e w2 ⟨rfl, b2⟩
  have B2 := hide (below_step B1.out b2)
  clear c0 c1 c2 c3 c4 c5 c6 c7 b2
  obtain ⟨c0, c1, c2, c3, c4, c5, c6, c7⟩ := box8 ((B2.out.block _ (by omega)).trans H0.out)
  by_cases hmk : L5.imakes 23 ty = 0
  . have RT : Hid (RTail W w2 s0 (preT (23, id, n, ty, ar, tt, nm, pl))) := hide ⟨B2.out, by rw [HS0.out]; exact PN.out hmk, by omega⟩
    rw [hmk]
    clear hmk PN PY HS0 B1 B2
    obtain ⟨wq, hwq⟩ : ∃ wq, wq = w2 := ⟨_, rfl⟩
    rw [<- hwq] at RT c0 c1 c2 c3 c4 c5 c6 c7 ⊢
    clear hwq
    go_wp2_with fail
    refine (rprint_w n wq iN).mono ?_; rintro e w5 ⟨rfl, b5⟩
    have B5 := hide (below_step RT.out.1 b5)
    have h32 : (⟨#[32]⟩ : ByteArray) = bs [32] := rfl
    have h32s : (bs [32]).size = 1 := rfl
    have hz := RT.out.2.2
    have hnd : (bs (dig n)).size <= 21 := by rw [bs_size]; exact dig_len iN
    have HE : Hid (s0 ++ bs [32] ++ bs (dig n) = bs (preT (23, id, n, ty, ar, tt, nm, pl) ++ sp [dig n])) := hide (by rw [RT.out.2.1, cat_bs, cat_bs]; simp [sp])
    generalize bs (dig n) = sn at *
    go_wp2_with fail
    go_ret
    exact ⟨L5.ret_str HE.out, B0.out.trans (B5.out.mono (by omega))⟩
  . have HP := hide (PY.out hmk)
    have hm1 : (L5.imakes 23 ty != 0) = true := by simpa using hmk
    generalize L5.imakes 23 ty = mk at *
    go_wp2_with fail
    refine (rsmall_w id w2 iId).mono ?_; rintro e w3 ⟨rfl, b3⟩
    have hdz : (bs (dig id)).size <= 21 := by rw [bs_size]; exact dig_len iId
    have B3 := hide (below_step B2.out b3)
    clear c0 c1 c2 c3 c4 c5 c6 c7 b3
    obtain ⟨c0, c1, c2, c3, c4, c5, c6, c7⟩ := box8 ((B3.out.block _ (by omega)).trans H0.out)
    have h37 : (⟨#[37]⟩ : ByteArray) = bs [37] := rfl
    have h61 : (⟨#[32, 61, 32]⟩ : ByteArray) = bs [32, 61, 32] := rfl
    have h37s : (bs [37]).size = 1 := rfl
    have h61s : (bs [32, 61, 32]).size = 3 := rfl
    obtain ⟨s4, hs4⟩ : ∃ s4, s4 = bs [37] ++ bs (dig id) ++ bs [32, 61, 32] ++ s0 := ⟨_, rfl⟩
    have hs4' := hs4.symm
    have hz4 : s4.size <= 60 := by rw [hs4, ByteArray.size_append, ByteArray.size_append, ByteArray.size_append]; omega
    have RT : Hid (RTail W w3 s4 (preT (23, id, n, ty, ar, tt, nm, pl))) := hide ⟨B3.out, by rw [hs4, HS0.out]; exact HP.out, hz4⟩
    clear hmk PN PY HS0 HP B1 B2 B3 hs4
    obtain ⟨wq, hwq⟩ : ∃ wq, wq = w3 := ⟨_, rfl⟩
    rw [<- hwq] at RT c0 c1 c2 c3 c4 c5 c6 c7 ⊢
    clear hwq
    generalize bs (dig id) = sg at *
    go_wp2_with fail
    refine (rprint_w n wq iN).mono ?_; rintro e w5 ⟨rfl, b5⟩
    have B5 := hide (below_step RT.out.1 b5)
    have h32 : (⟨#[32]⟩ : ByteArray) = bs [32] := rfl
    have h32s : (bs [32]).size = 1 := rfl
    have hz := RT.out.2.2
    have hnd : (bs (dig n)).size <= 21 := by rw [bs_size]; exact dig_len iN
    have HE : Hid (s4 ++ bs [32] ++ bs (dig n) = bs (preT (23, id, n, ty, ar, tt, nm, pl) ++ sp [dig n])) := hide (by rw [RT.out.2.1, cat_bs, cat_bs]; simp [sp])
    generalize bs (dig n) = sn at *
    go_wp2_with fail
    go_ret
    exact ⟨L5.ret_str HE.out, B0.out.trans (B5.out.mono (by omega))⟩
theorem rins_num29 (id n ty pl : Int) (ar tt : List Int) (nm : List UInt8) (ao to : Option Addr) (ca ct : Nat) (w : World) (hs1 : Sl w ao ar) (hs2 : Sl w to tt) (hF : Fin7 (29, id, n, ty, ar, tt, nm, pl)) :
    Calls Tryz.prog 13 #[.agg #[.int .i64 29, .int .i64 id, .int .i64 n, .int .i64 ty, .slice ao ar.length ca, .slice to tt.length ct, .string (bs nm), .int .i64 pl]] w fun e w' => e = .returned (.string (bs (preT (29, id, n, ty, ar, tt, nm, pl) ++ sp ([dig n])))) /\ Below w.heap.size w w' := by
  have b0 := below_box w (o8 29 id n ty pl ao to ar.length tt.length ca ct nm)
  have H0 := hide (heap_alloc_new w (o8 29 id n ty pl ao to ar.length tt.length ca ct nm))
  have A0 := hide (hs1.below b0)
  have U0 := hide (hs2.below b0)
  have hz0 : (w.alloc (o8 29 id n ty pl ao to ar.length tt.length ca ct nm)).heap.size > w.heap.size := by simp
  have B0 := hide b0
  obtain ⟨iId, iN, iA, iT, lA, lT, lN, hq1, hq2⟩ := hF
  clear hq1 hq2
  dsimp only at iId iN iA iT lA lT lN
  have IA := hide iA
  have IT := hide iT
  have PN := hide (pre_no (x := (29, id, n, ty, ar, tt, nm, pl)))
  have PY := hide (pre_yes (x := (29, id, n, ty, ar, tt, nm, pl)))
  have hiw := iword_size 29 ty
  have hnz : (bs nm).size <= 1000 := by rw [bs_size]; exact lN
  clear b0 hs1 hs2 iA iT
  go_enter Tryz.func13, Tryz.ntmps13
  go_upto_region 1 with fail
  show Code.wp _ _ _ _ (w.alloc (o8 29 id n ty pl ao to ar.length tt.length ca ct nm))
  generalize w.alloc (o8 29 id n ty pl ao to ar.length tt.length ca ct nm) = W at *
  obtain ⟨c0, c1, c2, c3, c4, c5, c6, c7⟩ := box8 H0.out
  go_wp2_with fail
  refine (rword_w 29 ty _ _ _ _ _ _ W).mono ?_; rintro e w1 ⟨rfl, b1⟩
  have B1 := hide b1
  clear c0 c1 c2 c3 c4 c5 c6 c7 b1
  obtain ⟨c0, c1, c2, c3, c4, c5, c6, c7⟩ := box8 ((B1.out.block _ (by omega)).trans H0.out)
  obtain ⟨s0, hs0⟩ : ∃ s0, s0 = L5.iword 29 ty := ⟨_, rfl⟩
  rw [<- hs0] at hiw ⊢
  have HS0 := hide hs0
  clear hs0
  go_wp2_with fail
  refine (L5.refMakes_any 29 ty _ _ _ _ _ _ w1).mono ?_; rintro e w2 ⟨rfl, b2⟩
  have B2 := hide (below_step B1.out b2)
  clear c0 c1 c2 c3 c4 c5 c6 c7 b2
  obtain ⟨c0, c1, c2, c3, c4, c5, c6, c7⟩ := box8 ((B2.out.block _ (by omega)).trans H0.out)
  by_cases hmk : L5.imakes 29 ty = 0
  . have RT : Hid (RTail W w2 s0 (preT (29, id, n, ty, ar, tt, nm, pl))) := hide ⟨B2.out, by rw [HS0.out]; exact PN.out hmk, by omega⟩
    rw [hmk]
    clear hmk PN PY HS0 B1 B2
    obtain ⟨wq, hwq⟩ : ∃ wq, wq = w2 := ⟨_, rfl⟩
    rw [<- hwq] at RT c0 c1 c2 c3 c4 c5 c6 c7 ⊢
    clear hwq
    go_wp2_with fail
    refine (rprint_w n wq iN).mono ?_; rintro e w5 ⟨rfl, b5⟩
    have B5 := hide (below_step RT.out.1 b5)
    have h32 : (⟨#[32]⟩ : ByteArray) = bs [32] := rfl
    have h32s : (bs [32]).size = 1 := rfl
    have hz := RT.out.2.2
    have hnd : (bs (dig n)).size <= 21 := by rw [bs_size]; exact dig_len iN
    have HE : Hid (s0 ++ bs [32] ++ bs (dig n) = bs (preT (29, id, n, ty, ar, tt, nm, pl) ++ sp [dig n])) := hide (by rw [RT.out.2.1, cat_bs, cat_bs]; simp [sp])
    generalize bs (dig n) = sn at *
    go_wp2_with fail
    go_ret
    exact ⟨L5.ret_str HE.out, B0.out.trans (B5.out.mono (by omega))⟩
  . have HP := hide (PY.out hmk)
    have hm1 : (L5.imakes 29 ty != 0) = true := by simpa using hmk
    generalize L5.imakes 29 ty = mk at *
    go_wp2_with fail
    refine (rsmall_w id w2 iId).mono ?_; rintro e w3 ⟨rfl, b3⟩
    have hdz : (bs (dig id)).size <= 21 := by rw [bs_size]; exact dig_len iId
    have B3 := hide (below_step B2.out b3)
    clear c0 c1 c2 c3 c4 c5 c6 c7 b3
    obtain ⟨c0, c1, c2, c3, c4, c5, c6, c7⟩ := box8 ((B3.out.block _ (by omega)).trans H0.out)
    have h37 : (⟨#[37]⟩ : ByteArray) = bs [37] := rfl
    have h61 : (⟨#[32, 61, 32]⟩ : ByteArray) = bs [32, 61, 32] := rfl
    have h37s : (bs [37]).size = 1 := rfl
    have h61s : (bs [32, 61, 32]).size = 3 := rfl
    obtain ⟨s4, hs4⟩ : ∃ s4, s4 = bs [37] ++ bs (dig id) ++ bs [32, 61, 32] ++ s0 := ⟨_, rfl⟩
    have hs4' := hs4.symm
    have hz4 : s4.size <= 60 := by rw [hs4, ByteArray.size_append, ByteArray.size_append, ByteArray.size_append]; omega
    have RT : Hid (RTail W w3 s4 (preT (29, id, n, ty, ar, tt, nm, pl))) := hide ⟨B3.out, by rw [hs4, HS0.out]; exact HP.out, hz4⟩
    clear hmk PN PY HS0 HP B1 B2 B3 hs4
    obtain ⟨wq, hwq⟩ : ∃ wq, wq = w3 := ⟨_, rfl⟩
    rw [<- hwq] at RT c0 c1 c2 c3 c4 c5 c6 c7 ⊢
    clear hwq
    generalize bs (dig id) = sg at *
    go_wp2_with fail
    refine (rprint_w n wq iN).mono ?_; rintro e w5 ⟨rfl, b5⟩
    have B5 := hide (below_step RT.out.1 b5)
    have h32 : (⟨#[32]⟩ : ByteArray) = bs [32] := rfl
    have h32s : (bs [32]).size = 1 := rfl
    have hz := RT.out.2.2
    have hnd : (bs (dig n)).size <= 21 := by rw [bs_size]; exact dig_len iN
    have HE : Hid (s4 ++ bs [32] ++ bs (dig n) = bs (preT (29, id, n, ty, ar, tt, nm, pl) ++ sp [dig n])) := hide (by rw [RT.out.2.1, cat_bs, cat_bs]; simp [sp])
    generalize bs (dig n) = sn at *
    go_wp2_with fail
    go_ret
    exact ⟨L5.ret_str HE.out, B0.out.trans (B5.out.mono (by omega))⟩
theorem rins_new (id n ty pl : Int) (ar tt : List Int) (nm : List UInt8) (ao to : Option Addr) (ca ct : Nat) (w : World) (hs1 : Sl w ao ar) (hs2 : Sl w to tt) (hF : Fin7 (10, id, n, ty, ar, tt, nm, pl)) :
    Calls Tryz.prog 13 #[.agg #[.int .i64 10, .int .i64 id, .int .i64 n, .int .i64 ty, .slice ao ar.length ca, .slice to tt.length ct, .string (bs nm), .int .i64 pl]] w fun e w' => e = .returned (.string (bs (preT (10, id, n, ty, ar, tt, nm, pl) ++ sp ([nm])))) /\ Below w.heap.size w w' := by
  have b0 := below_box w (o8 10 id n ty pl ao to ar.length tt.length ca ct nm)
  have H0 := hide (heap_alloc_new w (o8 10 id n ty pl ao to ar.length tt.length ca ct nm))
  have A0 := hide (hs1.below b0)
  have U0 := hide (hs2.below b0)
  have hz0 : (w.alloc (o8 10 id n ty pl ao to ar.length tt.length ca ct nm)).heap.size > w.heap.size := by simp
  have B0 := hide b0
  obtain ⟨iId, iN, iA, iT, lA, lT, lN, hq1, hq2⟩ := hF
  clear hq1 hq2
  dsimp only at iId iN iA iT lA lT lN
  have IA := hide iA
  have IT := hide iT
  have PN := hide (pre_no (x := (10, id, n, ty, ar, tt, nm, pl)))
  have PY := hide (pre_yes (x := (10, id, n, ty, ar, tt, nm, pl)))
  have hiw := iword_size 10 ty
  have hnz : (bs nm).size <= 1000 := by rw [bs_size]; exact lN
  clear b0 hs1 hs2 iA iT
  go_enter Tryz.func13, Tryz.ntmps13
  go_upto_region 1 with fail
  show Code.wp _ _ _ _ (w.alloc (o8 10 id n ty pl ao to ar.length tt.length ca ct nm))
  generalize w.alloc (o8 10 id n ty pl ao to ar.length tt.length ca ct nm) = W at *
  obtain ⟨c0, c1, c2, c3, c4, c5, c6, c7⟩ := box8 H0.out
  go_wp2_with fail
  refine (rword_w 10 ty _ _ _ _ _ _ W).mono ?_; rintro e w1 ⟨rfl, b1⟩
  have B1 := hide b1
  clear c0 c1 c2 c3 c4 c5 c6 c7 b1
  obtain ⟨c0, c1, c2, c3, c4, c5, c6, c7⟩ := box8 ((B1.out.block _ (by omega)).trans H0.out)
  obtain ⟨s0, hs0⟩ : ∃ s0, s0 = L5.iword 10 ty := ⟨_, rfl⟩
  rw [<- hs0] at hiw ⊢
  have HS0 := hide hs0
  clear hs0
  go_wp2_with fail
  refine (L5.refMakes_any 10 ty _ _ _ _ _ _ w1).mono ?_; rintro e w2 ⟨rfl, b2⟩
  have B2 := hide (below_step B1.out b2)
  clear c0 c1 c2 c3 c4 c5 c6 c7 b2
  obtain ⟨c0, c1, c2, c3, c4, c5, c6, c7⟩ := box8 ((B2.out.block _ (by omega)).trans H0.out)
  by_cases hmk : L5.imakes 10 ty = 0
  . have RT : Hid (RTail W w2 s0 (preT (10, id, n, ty, ar, tt, nm, pl))) := hide ⟨B2.out, by rw [HS0.out]; exact PN.out hmk, by omega⟩
    rw [hmk]
    clear hmk PN PY HS0 B1 B2
    obtain ⟨wq, hwq⟩ : ∃ wq, wq = w2 := ⟨_, rfl⟩
    rw [<- hwq] at RT c0 c1 c2 c3 c4 c5 c6 c7 ⊢
    clear hwq
    have h32 : (⟨#[32]⟩ : ByteArray) = bs [32] := rfl
    have h32s : (bs [32]).size = 1 := rfl
    have hz := RT.out.2.2
    have HE : Hid (s0 ++ bs [32] ++ bs nm = bs (preT (10, id, n, ty, ar, tt, nm, pl) ++ sp [nm])) := hide (by rw [RT.out.2.1, cat_bs, cat_bs]; simp [sp])
    go_wp2_with fail
    go_ret
    exact ⟨L5.ret_str HE.out, B0.out.trans (RT.out.1.mono (by omega))⟩
  . have HP := hide (PY.out hmk)
    have hm1 : (L5.imakes 10 ty != 0) = true := by simpa using hmk
    generalize L5.imakes 10 ty = mk at *
    go_wp2_with fail
    refine (rsmall_w id w2 iId).mono ?_; rintro e w3 ⟨rfl, b3⟩
    have hdz : (bs (dig id)).size <= 21 := by rw [bs_size]; exact dig_len iId
    have B3 := hide (below_step B2.out b3)
    clear c0 c1 c2 c3 c4 c5 c6 c7 b3
    obtain ⟨c0, c1, c2, c3, c4, c5, c6, c7⟩ := box8 ((B3.out.block _ (by omega)).trans H0.out)
    have h37 : (⟨#[37]⟩ : ByteArray) = bs [37] := rfl
    have h61 : (⟨#[32, 61, 32]⟩ : ByteArray) = bs [32, 61, 32] := rfl
    have h37s : (bs [37]).size = 1 := rfl
    have h61s : (bs [32, 61, 32]).size = 3 := rfl
    obtain ⟨s4, hs4⟩ : ∃ s4, s4 = bs [37] ++ bs (dig id) ++ bs [32, 61, 32] ++ s0 := ⟨_, rfl⟩
    have hs4' := hs4.symm
    have hz4 : s4.size <= 60 := by rw [hs4, ByteArray.size_append, ByteArray.size_append, ByteArray.size_append]; omega
    have RT : Hid (RTail W w3 s4 (preT (10, id, n, ty, ar, tt, nm, pl))) := hide ⟨B3.out, by rw [hs4, HS0.out]; exact HP.out, hz4⟩
    clear hmk PN PY HS0 HP B1 B2 B3 hs4
    obtain ⟨wq, hwq⟩ : ∃ wq, wq = w3 := ⟨_, rfl⟩
    rw [<- hwq] at RT c0 c1 c2 c3 c4 c5 c6 c7 ⊢
    clear hwq
    generalize bs (dig id) = sg at *
    have h32 : (⟨#[32]⟩ : ByteArray) = bs [32] := rfl
    have h32s : (bs [32]).size = 1 := rfl
    have hz := RT.out.2.2
    have HE : Hid (s4 ++ bs [32] ++ bs nm = bs (preT (10, id, n, ty, ar, tt, nm, pl) ++ sp [nm])) := hide (by rw [RT.out.2.1, cat_bs, cat_bs]; simp [sp])
    go_wp2_with fail
    go_ret
    exact ⟨L5.ret_str HE.out, B0.out.trans (RT.out.1.mono (by omega))⟩
end Go.Proofs.YtahhbckccdigoaaGreatDoor
