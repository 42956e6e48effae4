/- Layer 7, the reference: an instruction as a text: calls, and all others but phis. -/
import Derived.Test.YtahhbckccdigoaaGreatDoorMbAW
import Derived.Test.YtahhbckccdigoaaGreatDoorMbBC
set_option maxHeartbeats 8000000
set_option maxRecDepth 20000
namespace Go.Proofs.YtahhbckccdigoaaGreatDoor
open Go Go.RowKit
open G (Tok Er Ins Fun)
theorem rins_call0 (id ty pl : Int) (ar tt : List Int) (nm : List UInt8) (ao to : Option Addr) (ca ct : Nat) (w : World) (hs1 : Sl w ao ar) (hs2 : Sl w to tt) (hF : Fin7 (21, id, 0, ty, ar, tt, nm, pl)) :
    Calls Tryz.prog 13 #[.agg #[.int .i64 21, .int .i64 id, .int .i64 0, .int .i64 ty, .slice ao ar.length ca, .slice to tt.length ct, .string (bs nm), .int .i64 pl]] w fun e w' => e = .returned (.string (bs (preT (21, id, 0, ty, ar, tt, nm, pl) ++ sp ([nm] ++ ar.map valW)))) /\ Below w.heap.size w w' := by
  have b0 := below_box w (o8 21 id 0 ty pl ao to ar.length tt.length ca ct nm)
  have H0 := hide (heap_alloc_new w (o8 21 id 0 ty pl ao to ar.length tt.length ca ct nm))
  have A0 := hide (hs1.below b0)
  have U0 := hide (hs2.below b0)
  have hz0 : (w.alloc (o8 21 id 0 ty pl ao to ar.length tt.length ca ct nm)).heap.size > w.heap.size := by simp
  have B0 := hide b0
  obtain ⟨iId, iN, iA, iT, lA, lT, lN, hq1, hq2⟩ := hF
  clear hq1 hq2
  dsimp only at iId iN iA iT lA lT lN
  have IA := hide iA
  have IT := hide iT
  have PN := hide (pre_no (x := (21, id, 0, ty, ar, tt, nm, pl)))
  have PY := hide (pre_yes (x := (21, id, 0, ty, ar, tt, nm, pl)))
  have hiw := iword_size 21 ty
  have hnz : (bs nm).size <= 1000 := by rw [bs_size]; exact lN
  clear b0 hs1 hs2 iA iT
  go_enter Tryz.func13, Tryz.ntmps13
  go_upto_region 1 with fail
  show Code.wp _ _ _ _ (w.alloc (o8 21 id 0 ty pl ao to ar.length tt.length ca ct nm))
  generalize w.alloc (o8 21 id 0 ty pl ao to ar.length tt.length ca ct nm) = W at *
  obtain ⟨c0, c1, c2, c3, c4, c5, c6, c7⟩ := box8 H0.out
  go_wp2_with fail
  refine (rword_w 21 ty _ _ _ _ _ _ W).mono ?_; rintro e w1 ⟨rfl, b1⟩
  have B1 := hide b1
  clear c0 c1 c2 c3 c4 c5 c6 c7 b1
  obtain ⟨c0, c1, c2, c3, c4, c5, c6, c7⟩ := box8 ((B1.out.block _ (by omega)).trans H0.out)
  obtain ⟨s0, hs0⟩ : ∃ s0, s0 = L5.iword 21 ty := ⟨_, rfl⟩
  rw [<- hs0] at hiw ⊢
  have HS0 := hide hs0
  clear hs0
  go_wp2_with fail
  refine (L5.refMakes_any 21 ty _ _ _ _ _ _ w1).mono ?_; rintro e w2 ⟨rfl, b2⟩
  have B2 := hide (below_step B1.out b2)
  clear c0 c1 c2 c3 c4 c5 c6 c7 b2
  obtain ⟨c0, c1, c2, c3, c4, c5, c6, c7⟩ := box8 ((B2.out.block _ (by omega)).trans H0.out)
  by_cases hmk : L5.imakes 21 ty = 0
  . have RT : Hid (RTail W w2 s0 (preT (21, id, 0, ty, ar, tt, nm, pl))) := hide ⟨B2.out, by rw [HS0.out]; exact PN.out hmk, by omega⟩
    rw [hmk]
    clear hmk PN PY HS0 B1 B2
    obtain ⟨wq, hwq⟩ : ∃ wq, wq = w2 := ⟨_, rfl⟩
    rw [<- hwq] at RT c0 c1 c2 c3 c4 c5 c6 c7 ⊢
    clear hwq
    have AQ := hide (A0.out.below RT.out.1)
    have hz := RT.out.2.2
    have hcl : w.heap.size < wq.heap.size := Nat.lt_of_lt_of_le hz0 RT.out.1.size
    have hrl : (sp (ar.map valW)).length <= 23000 := by
      have h1 := sp_len (ar.map valW) 22 fun x hx => by
        simp only [List.mem_map] at hx
        obtain ⟨n, hn, rfl⟩ := hx
        exact val_len (IA.out n hn)
      have h2 : (ar.map valW).length <= 1000 := by simp; omega
      have h3 : (ar.map valW).length * (22 + 1) <= 1000 * 23 := Nat.mul_le_mul h2 (Nat.le_refl _)
      omega
    obtain ⟨sr, hsr⟩ : ∃ sr, sr = bs (sp (ar.map valW)) := ⟨_, rfl⟩
    have zr : sr.size <= 23000 := by rw [hsr, bs_size]; exact hrl
    have C38w : Hid (∀ w', Below wq.heap.size wq w' -> Calls Tryz.prog 38 #[.slice ao ar.length ca, .int .i64 0] w' fun e w'' => e = .returned (.string sr) /\ Below w'.heap.size w' w'') := hide fun w' bw => by
      rw [hsr]; exact rargs_any ar 0 _ ca _ (AQ.out.below bw) IA.out lA (Nat.zero_le _)
    have h32 : (⟨#[32]⟩ : ByteArray) = bs [32] := rfl
    have h32s : (bs [32]).size = 1 := rfl
    have HE : Hid (s0 ++ bs [32] ++ bs nm ++ sr = bs (preT (21, id, 0, ty, ar, tt, nm, pl) ++ sp ([nm] ++ ar.map valW))) := hide (by
      rw [RT.out.2.1, hsr, cat_bs, cat_bs, cat_bs]; simp [sp])
    clear hsr hrl
    have C38 : Hid (∀ x, Calls Tryz.prog 38 #[.slice ao ar.length ca, .int .i64 0] (L5.grewTo wq x) fun e w'' => e = .returned (.string sr) /\ Below (L5.grewTo wq x).heap.size (L5.grewTo wq x) w'') := hide fun x => C38w.out _ (L5.grewTo_below wq x)
    have d6 := fun x => ((L5.grewTo_below wq x).cell (p := ⟨w.heap.size, 6, none⟩) hcl).trans c6
    have d4 := fun x => ((L5.grewTo_below wq x).cell (p := ⟨w.heap.size, 4, none⟩) hcl).trans c4
    go_wp2_with fail
    refine L5.region_grew (by kernel_rfl) (by kernel_rfl) ?_
    repeat (go_big_quiet_step ((go_at_call 38; exact L5.calls_grew (C38.out _))))
    refine wpQuiet_nil ?_
    rintro _ ⟨x, rfl⟩
    have B5 := hide (below_step RT.out.1 (L5.grewTo_below wq x))
    clear d6 d4
    go_wp2_with fail
    go_ret
    exact ⟨L5.ret_str HE.out, B0.out.trans (B5.out.mono (by omega))⟩
  . have HP := hide (PY.out hmk)
    have hm1 : (L5.imakes 21 ty != 0) = true := by simpa using hmk
    generalize L5.imakes 21 ty = mk at *
    go_wp2_with fail
    refine (rsmall_w id w2 iId).mono ?_; rintro e w3 ⟨rfl, b3⟩
    have hdz : (bs (dig id)).size <= 21 := by rw [bs_size]; exact dig_len iId
    have B3 := hide (below_step B2.out b3)
    clear c0 c1 c2 c3 c4 c5 c6 c7 b3
    obtain ⟨c0, c1, c2, c3, c4, c5, c6, c7⟩ := box8 ((B3.out.block _ (by omega)).trans H0.out)
    have h37 : (⟨#[37]⟩ : ByteArray) = bs [37] := rfl
    have h61 : (⟨#[32, 61, 32]⟩ : ByteArray) = bs [32, 61, 32] := rfl
    have h37s : (bs [37]).size = 1 := rfl
    have h61s : (bs [32, 61, 32]).size = 3 := rfl
    obtain ⟨s4, hs4⟩ : ∃ s4, s4 = bs [37] ++ bs (dig id) ++ bs [32, 61, 32] ++ s0 := ⟨_, rfl⟩
    have hs4' := hs4.symm
    have hz4 : s4.size <= 60 := by rw [hs4, ByteArray.size_append, ByteArray.size_append, ByteArray.size_append]; omega
    have RT : Hid (RTail W w3 s4 (preT (21, id, 0, ty, ar, tt, nm, pl))) := hide ⟨B3.out, by rw [hs4, HS0.out]; exact HP.out, hz4⟩
    clear hmk PN PY HS0 HP B1 B2 B3 hs4
    obtain ⟨wq, hwq⟩ : ∃ wq, wq = w3 := ⟨_, rfl⟩
    rw [<- hwq] at RT c0 c1 c2 c3 c4 c5 c6 c7 ⊢
    clear hwq
    generalize bs (dig id) = sg at *
    have AQ := hide (A0.out.below RT.out.1)
    have hz := RT.out.2.2
    have hcl : w.heap.size < wq.heap.size := Nat.lt_of_lt_of_le hz0 RT.out.1.size
    have hrl : (sp (ar.map valW)).length <= 23000 := by
      have h1 := sp_len (ar.map valW) 22 fun x hx => by
        simp only [List.mem_map] at hx
        obtain ⟨n, hn, rfl⟩ := hx
        exact val_len (IA.out n hn)
      have h2 : (ar.map valW).length <= 1000 := by simp; omega
      have h3 : (ar.map valW).length * (22 + 1) <= 1000 * 23 := Nat.mul_le_mul h2 (Nat.le_refl _)
      omega
    obtain ⟨sr, hsr⟩ : ∃ sr, sr = bs (sp (ar.map valW)) := ⟨_, rfl⟩
    have zr : sr.size <= 23000 := by rw [hsr, bs_size]; exact hrl
    have C38w : Hid (∀ w', Below wq.heap.size wq w' -> Calls Tryz.prog 38 #[.slice ao ar.length ca, .int .i64 0] w' fun e w'' => e = .returned (.string sr) /\ Below w'.heap.size w' w'') := hide fun w' bw => by
      rw [hsr]; exact rargs_any ar 0 _ ca _ (AQ.out.below bw) IA.out lA (Nat.zero_le _)
    have h32 : (⟨#[32]⟩ : ByteArray) = bs [32] := rfl
    have h32s : (bs [32]).size = 1 := rfl
    have HE : Hid (s4 ++ bs [32] ++ bs nm ++ sr = bs (preT (21, id, 0, ty, ar, tt, nm, pl) ++ sp ([nm] ++ ar.map valW))) := hide (by
      rw [RT.out.2.1, hsr, cat_bs, cat_bs, cat_bs]; simp [sp])
    clear hsr hrl
    have C38 : Hid (∀ x, Calls Tryz.prog 38 #[.slice ao ar.length ca, .int .i64 0] (L5.grewTo wq x) fun e w'' => e = .returned (.string sr) /\ Below (L5.grewTo wq x).heap.size (L5.grewTo wq x) w'') := hide fun x => C38w.out _ (L5.grewTo_below wq x)
    have d6 := fun x => ((L5.grewTo_below wq x).cell (p := ⟨w.heap.size, 6, none⟩) hcl).trans c6
    have d4 := fun x => ((L5.grewTo_below wq x).cell (p := ⟨w.heap.size, 4, none⟩) hcl).trans c4
    go_wp2_with fail
    refine L5.region_grew (by kernel_rfl) (by kernel_rfl) ?_
    repeat (go_big_quiet_step ((go_at_call 38; exact L5.calls_grew (C38.out _))))
    refine wpQuiet_nil ?_
    rintro _ ⟨x, rfl⟩
    have B5 := hide (below_step RT.out.1 (L5.grewTo_below wq x))
    clear d6 d4
    go_wp2_with fail
    go_ret
    exact ⟨L5.ret_str HE.out, B0.out.trans (B5.out.mono (by omega))⟩
theorem rins_call1 (id n ty pl : Int) (hn : n ≠ 0) (ar tt : List Int) (nm : List UInt8) (ao to : Option Addr) (ca ct : Nat) (w : World) (hs1 : Sl w ao ar) (hs2 : Sl w to tt) (hF : Fin7 (21, id, n, ty, ar, tt, nm, pl)) :
    Calls Tryz.prog 13 #[.agg #[.int .i64 21, .int .i64 id, .int .i64 n, .int .i64 ty, .slice ao ar.length ca, .slice to tt.length ct, .string (bs nm), .int .i64 pl]] w fun e w' => e = .returned (.string (bs (preT (21, id, n, ty, ar, tt, nm, pl) ++ sp ([64 :: dig n] ++ [nm] ++ ar.map valW)))) /\ Below w.heap.size w w' := by
  have hn0 := hide hn
  clear hn
  have b0 := below_box w (o8 21 id n ty pl ao to ar.length tt.length ca ct nm)
  have H0 := hide (heap_alloc_new w (o8 21 id n ty pl ao to ar.length tt.length ca ct nm))
  have A0 := hide (hs1.below b0)
  have U0 := hide (hs2.below b0)
  have hz0 : (w.alloc (o8 21 id n ty pl ao to ar.length tt.length ca ct nm)).heap.size > w.heap.size := by simp
  have B0 := hide b0
  obtain ⟨iId, iN, iA, iT, lA, lT, lN, hq1, hq2⟩ := hF
  clear hq1 hq2
  dsimp only at iId iN iA iT lA lT lN
  have IA := hide iA
  have IT := hide iT
  have PN := hide (pre_no (x := (21, id, n, ty, ar, tt, nm, pl)))
  have PY := hide (pre_yes (x := (21, id, n, ty, ar, tt, nm, pl)))
  have hiw := iword_size 21 ty
  have hnz : (bs nm).size <= 1000 := by rw [bs_size]; exact lN
  clear b0 hs1 hs2 iA iT
  go_enter Tryz.func13, Tryz.ntmps13
  go_upto_region 1 with fail
  show Code.wp _ _ _ _ (w.alloc (o8 21 id n ty pl ao to ar.length tt.length ca ct nm))
  generalize w.alloc (o8 21 id n ty pl ao to ar.length tt.length ca ct nm) = W at *
  obtain ⟨c0, c1, c2, c3, c4, c5, c6, c7⟩ := box8 H0.out
  go_wp2_with fail
  refine (rword_w 21 ty _ _ _ _ _ _ W).mono ?_; rintro e w1 ⟨rfl, b1⟩
  have B1 := hide b1
  clear c0 c1 c2 c3 c4 c5 c6 c7 b1
  obtain ⟨c0, c1, c2, c3, c4, c5, c6, c7⟩ := box8 ((B1.out.block _ (by omega)).trans H0.out)
  obtain ⟨s0, hs0⟩ : ∃ s0, s0 = L5.iword 21 ty := ⟨_, rfl⟩
  rw [<- hs0] at hiw ⊢
  have HS0 := hide hs0
  clear hs0
  go_wp2_with fail
  refine (L5.refMakes_any 21 ty _ _ _ _ _ _ w1).mono ?_; rintro e w2 ⟨rfl, b2⟩
  have B2 := hide (below_step B1.out b2)
  clear c0 c1 c2 c3 c4 c5 c6 c7 b2
  obtain ⟨c0, c1, c2, c3, c4, c5, c6, c7⟩ := box8 ((B2.out.block _ (by omega)).trans H0.out)
  by_cases hmk : L5.imakes 21 ty = 0
  . have RT : Hid (RTail W w2 s0 (preT (21, id, n, ty, ar, tt, nm, pl))) := hide ⟨B2.out, by rw [HS0.out]; exact PN.out hmk, by omega⟩
    rw [hmk]
    clear hmk PN PY HS0 B1 B2
    obtain ⟨wq, hwq⟩ : ∃ wq, wq = w2 := ⟨_, rfl⟩
    rw [<- hwq] at RT c0 c1 c2 c3 c4 c5 c6 c7 ⊢
    clear hwq
    have AQ := hide (A0.out.below RT.out.1)
    have hz := RT.out.2.2
    have hcl : w.heap.size < wq.heap.size := Nat.lt_of_lt_of_le hz0 RT.out.1.size
    have hrl : (sp (ar.map valW)).length <= 23000 := by
      have h1 := sp_len (ar.map valW) 22 fun x hx => by
        simp only [List.mem_map] at hx
        obtain ⟨n, hn, rfl⟩ := hx
        exact val_len (IA.out n hn)
      have h2 : (ar.map valW).length <= 1000 := by simp; omega
      have h3 : (ar.map valW).length * (22 + 1) <= 1000 * 23 := Nat.mul_le_mul h2 (Nat.le_refl _)
      omega
    obtain ⟨sr, hsr⟩ : ∃ sr, sr = bs (sp (ar.map valW)) := ⟨_, rfl⟩
    have zr : sr.size <= 23000 := by rw [hsr, bs_size]; exact hrl
    have C38w : Hid (∀ w', Below wq.heap.size wq w' -> Calls Tryz.prog 38 #[.slice ao ar.length ca, .int .i64 0] w' fun e w'' => e = .returned (.string sr) /\ Below w'.heap.size w' w'') := hide fun w' bw => by
      rw [hsr]; exact rargs_any ar 0 _ ca _ (AQ.out.below bw) IA.out lA (Nat.zero_le _)
    have h32 : (⟨#[32]⟩ : ByteArray) = bs [32] := rfl
    have h32s : (bs [32]).size = 1 := rfl
    have hn1 : (n != 0) = true := by simpa using hn0.out
    obtain ⟨sn, hsn⟩ : ∃ sn, sn = bs (dig n) := ⟨_, rfl⟩
    have zn : sn.size <= 21 := by rw [hsn, bs_size]; exact dig_len iN
    have h64 : (⟨#[32, 64]⟩ : ByteArray) = bs [32, 64] := rfl
    have h64s : (bs [32, 64]).size = 2 := rfl
    have HE : Hid (s0 ++ bs [32, 64] ++ sn ++ bs [32] ++ bs nm ++ sr = bs (preT (21, id, n, ty, ar, tt, nm, pl) ++ sp ([64 :: dig n] ++ [nm] ++ ar.map valW))) := hide (by
      rw [RT.out.2.1, hsr, hsn, cat_bs, cat_bs, cat_bs, cat_bs, cat_bs]; simp [sp])
    have C37 : Hid (∀ w', Calls Tryz.prog 37 #[.int .i64 n] w' fun e w'' => e = .returned (.string sn) /\ Below w'.heap.size w' w'') := hide fun w' => by rw [hsn]; exact rprint_w n w' iN
    clear hsr hrl hsn
    go_wp2_with fail
    refine (C37.out _).mono ?_; rintro e w6 ⟨rfl, b6⟩
    have B6 := hide b6
    have HB := hide (RT.out.1)
    have hcl6 : w.heap.size < w6.heap.size := Nat.lt_of_lt_of_le hcl b6.size
    replace c4 := (b6.cell (p := ⟨w.heap.size, 4, none⟩) hcl).trans c4
    replace c6 := (b6.cell (p := ⟨w.heap.size, 6, none⟩) hcl).trans c6
    clear c0 c1 c2 c3 c5 c7 b6
    have C38 : Hid (∀ x, Calls Tryz.prog 38 #[.slice ao ar.length ca, .int .i64 0] (L5.grewTo w6 x) fun e w'' => e = .returned (.string sr) /\ Below (L5.grewTo w6 x).heap.size (L5.grewTo w6 x) w'') := hide fun x => C38w.out _ (below_step B6.out (L5.grewTo_below w6 x))
    have d6 := fun x => ((L5.grewTo_below w6 x).cell (p := ⟨w.heap.size, 6, none⟩) hcl6).trans c6
    have d4 := fun x => ((L5.grewTo_below w6 x).cell (p := ⟨w.heap.size, 4, none⟩) hcl6).trans c4
    go_wp2_with fail
    refine L5.region_grew (by kernel_rfl) (by kernel_rfl) ?_
    repeat (go_big_quiet_step ((go_at_call 38; exact L5.calls_grew (C38.out _))))
    refine wpQuiet_nil ?_
    rintro _ ⟨x, rfl⟩
    have B5 := hide (below_step (below_step HB.out B6.out) (L5.grewTo_below w6 x))
    clear d6 d4
    go_wp2_with fail
    go_ret
    exact ⟨L5.ret_str HE.out, B0.out.trans (B5.out.mono (by omega))⟩
  . have HP := hide (PY.out hmk)
    have hm1 : (L5.imakes 21 ty != 0) = true := by simpa using hmk
    generalize L5.imakes 21 ty = mk at *
    go_wp2_with fail
    refine (rsmall_w id w2 iId).mono ?_; rintro e w3 ⟨rfl, b3⟩
    have hdz : (bs (dig id)).size <= 21 := by rw [bs_size]; exact dig_len iId
    have B3 := hide (below_step B2.out b3)
    clear c0 c1 c2 c3 c4 c5 c6 c7 b3
    obtain ⟨c0, c1, c2, c3, c4, c5, c6, c7⟩ := box8 ((B3.out.block _ (by omega)).trans H0.out)
    have h37 : (⟨#[37]⟩ : ByteArray) = bs [37] := rfl
    have h61 : (⟨#[32, 61, 32]⟩ : ByteArray) = bs [32, 61, 32] := rfl
    have h37s : (bs [37]).size = 1 := rfl
    have h61s : (bs [32, 61, 32]).size = 3 := rfl
    obtain ⟨s4, hs4⟩ : ∃ s4, s4 = bs [37] ++ bs (dig id) ++ bs [32, 61, 32] ++ s0 := ⟨_, rfl⟩
    have hs4' := hs4.symm
    have hz4 : s4.size <= 60 := by rw [hs4, ByteArray.size_append, ByteArray.size_append, ByteArray.size_append]; omega
    have RT : Hid (RTail W w3 s4 (preT (21, id, n, ty, ar, tt, nm, pl))) := hide ⟨B3.out, by rw [hs4, HS0.out]; exact HP.out, hz4⟩
    clear hmk PN PY HS0 HP B1 B2 B3 hs4
    obtain ⟨wq, hwq⟩ : ∃ wq, wq = w3 := ⟨_, rfl⟩
    rw [<- hwq] at RT c0 c1 c2 c3 c4 c5 c6 c7 ⊢
    clear hwq
    generalize bs (dig id) = sg at *
    have AQ := hide (A0.out.below RT.out.1)
    have hz := RT.out.2.2
    have hcl : w.heap.size < wq.heap.size := Nat.lt_of_lt_of_le hz0 RT.out.1.size
    have hrl : (sp (ar.map valW)).length <= 23000 := by
      have h1 := sp_len (ar.map valW) 22 fun x hx => by
        simp only [List.mem_map] at hx
        obtain ⟨n, hn, rfl⟩ := hx
        exact val_len (IA.out n hn)
      have h2 : (ar.map valW).length <= 1000 := by simp; omega
      have h3 : (ar.map valW).length * (22 + 1) <= 1000 * 23 := Nat.mul_le_mul h2 (Nat.le_refl _)
      omega
    obtain ⟨sr, hsr⟩ : ∃ sr, sr = bs (sp (ar.map valW)) := ⟨_, rfl⟩
    have zr : sr.size <= 23000 := by rw [hsr, bs_size]; exact hrl
    have C38w : Hid (∀ w', Below wq.heap.size wq w' -> Calls Tryz.prog 38 #[.slice ao ar.length ca, .int .i64 0] w' fun e w'' => e = .returned (.string sr) /\ Below w'.heap.size w' w'') := hide fun w' bw => by
      rw [hsr]; exact rargs_any ar 0 _ ca _ (AQ.out.below bw) IA.out lA (Nat.zero_le _)
    have h32 : (⟨#[32]⟩ : ByteArray) = bs [32] := rfl
    have h32s : (bs [32]).size = 1 := rfl
    have hn1 : (n != 0) = true := by simpa using hn0.out
    obtain ⟨sn, hsn⟩ : ∃ sn, sn = bs (dig n) := ⟨_, rfl⟩
    have zn : sn.size <= 21 := by rw [hsn, bs_size]; exact dig_len iN
    have h64 : (⟨#[32, 64]⟩ : ByteArray) = bs [32, 64] := rfl
    have h64s : (bs [32, 64]).size = 2 := rfl
    have HE : Hid (s4 ++ bs [32, 64] ++ sn ++ bs [32] ++ bs nm ++ sr = bs (preT (21, id, n, ty, ar, tt, nm, pl) ++ sp ([64 :: dig n] ++ [nm] ++ ar.map valW))) := hide (by
      rw [RT.out.2.1, hsr, hsn, cat_bs, cat_bs, cat_bs, cat_bs, cat_bs]; simp [sp])
    have C37 : Hid (∀ w', Calls Tryz.prog 37 #[.int .i64 n] w' fun e w'' => e = .returned (.string sn) /\ Below w'.heap.size w' w'') := hide fun w' => by rw [hsn]; exact rprint_w n w' iN
    clear hsr hrl hsn
    go_wp2_with fail
    refine (C37.out _).mono ?_; rintro e w6 ⟨rfl, b6⟩
    have B6 := hide b6
    have HB := hide (RT.out.1)
    have hcl6 : w.heap.size < w6.heap.size := Nat.lt_of_lt_of_le hcl b6.size
    replace c4 := (b6.cell (p := ⟨w.heap.size, 4, none⟩) hcl).trans c4
    replace c6 := (b6.cell (p := ⟨w.heap.size, 6, none⟩) hcl).trans c6
    clear c0 c1 c2 c3 c5 c7 b6
    have C38 : Hid (∀ x, Calls Tryz.prog 38 #[.slice ao ar.length ca, .int .i64 0] (L5.grewTo w6 x) fun e w'' => e = .returned (.string sr) /\ Below (L5.grewTo w6 x).heap.size (L5.grewTo w6 x) w'') := hide fun x => C38w.out _ (below_step B6.out (L5.grewTo_below w6 x))
    have d6 := fun x => ((L5.grewTo_below w6 x).cell (p := ⟨w.heap.size, 6, none⟩) hcl6).trans c6
    have d4 := fun x => ((L5.grewTo_below w6 x).cell (p := ⟨w.heap.size, 4, none⟩) hcl6).trans c4
    go_wp2_with fail
    refine L5.region_grew (by kernel_rfl) (by kernel_rfl) ?_
    repeat (go_big_quiet_step ((go_at_call 38; exact L5.calls_grew (C38.out _))))
    refine wpQuiet_nil ?_
    rintro _ ⟨x, rfl⟩
    have B5 := hide (below_step (below_step HB.out B6.out) (L5.grewTo_below w6 x))
    clear d6 d4
    go_wp2_with fail
    go_ret
    exact ⟨L5.ret_str HE.out, B0.out.trans (B5.out.mono (by omega))⟩
theorem rins_else (k : Int) (hk : k ≠ 1 /\ k ≠ 23 /\ k ≠ 29 /\ k ≠ 10 /\ k ≠ 11 /\ k ≠ 12 /\ k ≠ 15 /\ k ≠ 24 /\ k ≠ 13 /\ k ≠ 14 /\ k ≠ 20 /\ k ≠ 21) (id n ty pl : Int) (ar tt : List Int) (nm : List UInt8) (ao to : Option Addr) (ca ct : Nat) (w : World) (hs1 : Sl w ao ar) (hs2 : Sl w to tt) (hF : Fin7 (k, id, n, ty, ar, tt, nm, pl)) :
    Calls Tryz.prog 13 #[.agg #[.int .i64 k, .int .i64 id, .int .i64 n, .int .i64 ty, .slice ao ar.length ca, .slice to tt.length ct, .string (bs nm), .int .i64 pl]] w fun e w' => e = .returned (.string (bs (preT (k, id, n, ty, ar, tt, nm, pl) ++ sp (ar.map valW ++ tt.map labW)))) /\ Below w.heap.size w w' := by
  replace hk := hide hk
  have b0 := below_box w (o8 k id n ty pl ao to ar.length tt.length ca ct nm)
  have H0 := hide (heap_alloc_new w (o8 k id n ty pl ao to ar.length tt.length ca ct nm))
  have A0 := hide (hs1.below b0)
  have U0 := hide (hs2.below b0)
  have hz0 : (w.alloc (o8 k id n ty pl ao to ar.length tt.length ca ct nm)).heap.size > w.heap.size := by simp
  have B0 := hide b0
  obtain ⟨iId, iN, iA, iT, lA, lT, lN, hq1, hq2⟩ := hF
  clear hq1 hq2
  dsimp only at iId iN iA iT lA lT lN
  have IA := hide iA
  have IT := hide iT
  have PN := hide (pre_no (x := (k, id, n, ty, ar, tt, nm, pl)))
  have PY := hide (pre_yes (x := (k, id, n, ty, ar, tt, nm, pl)))
  have hiw := iword_size k ty
  have hnz : (bs nm).size <= 1000 := by rw [bs_size]; exact lN
  clear b0 hs1 hs2 iA iT
  go_enter Tryz.func13, Tryz.ntmps13
  go_upto_region 1 with fail
  show Code.wp _ _ _ _ (w.alloc (o8 k id n ty pl ao to ar.length tt.length ca ct nm))
  generalize w.alloc (o8 k id n ty pl ao to ar.length tt.length ca ct nm) = W at *
  obtain ⟨c0, c1, c2, c3, c4, c5, c6, c7⟩ := box8 H0.out
  go_wp2_with fail
  refine (rword_w k ty _ _ _ _ _ _ W).mono ?_; rintro e w1 ⟨rfl, b1⟩
  have B1 := hide b1
  clear c0 c1 c2 c3 c4 c5 c6 c7 b1
  obtain ⟨c0, c1, c2, c3, c4, c5, c6, c7⟩ := box8 ((B1.out.block _ (by omega)).trans H0.out)
  obtain ⟨s0, hs0⟩ : ∃ s0, s0 = L5.iword k ty := ⟨_, rfl⟩
  rw [<- hs0] at hiw ⊢
  have HS0 := hide hs0
  clear hs0
  go_wp2_with fail
  refine (L5.refMakes_any k ty _ _ _ _ _ _ w1).mono ?_; rintro e w2 ⟨rfl, b2⟩
  have B2 := hide (below_step B1.out b2)
  clear c0 c1 c2 c3 c4 c5 c6 c7 b2
  obtain ⟨c0, c1, c2, c3, c4, c5, c6, c7⟩ := box8 ((B2.out.block _ (by omega)).trans H0.out)
  by_cases hmk : L5.imakes k ty = 0
  . have RT : Hid (RTail W w2 s0 (preT (k, id, n, ty, ar, tt, nm, pl))) := hide ⟨B2.out, by rw [HS0.out]; exact PN.out hmk, by omega⟩
    rw [hmk]
    clear hmk PN PY HS0 B1 B2
    obtain ⟨wq, hwq⟩ : ∃ wq, wq = w2 := ⟨_, rfl⟩
    rw [<- hwq] at RT c0 c1 c2 c3 c4 c5 c6 c7 ⊢
    clear hwq
    have AQ := hide (A0.out.below RT.out.1)
    have hz := RT.out.2.2
    have hcl : w.heap.size < wq.heap.size := Nat.lt_of_lt_of_le hz0 RT.out.1.size
    have hrl : (sp (ar.map valW)).length <= 23000 := by
      have h1 := sp_len (ar.map valW) 22 fun x hx => by
        simp only [List.mem_map] at hx
        obtain ⟨n, hn, rfl⟩ := hx
        exact val_len (IA.out n hn)
      have h2 : (ar.map valW).length <= 1000 := by simp; omega
      have h3 : (ar.map valW).length * (22 + 1) <= 1000 * 23 := Nat.mul_le_mul h2 (Nat.le_refl _)
      omega
    obtain ⟨sr, hsr⟩ : ∃ sr, sr = bs (sp (ar.map valW)) := ⟨_, rfl⟩
    have zr : sr.size <= 23000 := by rw [hsr, bs_size]; exact hrl
    have C38w : Hid (∀ w', Below wq.heap.size wq w' -> Calls Tryz.prog 38 #[.slice ao ar.length ca, .int .i64 0] w' fun e w'' => e = .returned (.string sr) /\ Below w'.heap.size w' w'') := hide fun w' bw => by
      rw [hsr]; exact rargs_any ar 0 _ ca _ (AQ.out.below bw) IA.out lA (Nat.zero_le _)
    have h32 : (⟨#[32]⟩ : ByteArray) = bs [32] := rfl
    have h32s : (bs [32]).size = 1 := rfl
    obtain ⟨n1, n23, n29, n10, n11, n12, n15, n24, n13, n14, n20, n21⟩ := hk.out
    replace n1 : (k == 1) = false := by simpa using n1
    replace n23 : (k == 23) = false := by simpa using n23
    replace n29 : (k == 29) = false := by simpa using n29
    replace n10 : (k == 10) = false := by simpa using n10
    replace n11 : (k == 11) = false := by simpa using n11
    replace n12 : (k == 12) = false := by simpa using n12
    replace n15 : (k == 15) = false := by simpa using n15
    replace n24 : (k == 24) = false := by simpa using n24
    replace n13 : (k == 13) = false := by simpa using n13
    replace n14 : (k == 14) = false := by simpa using n14
    replace n20 : (k == 20) = false := by simpa using n20
    replace n21 : (k == 21) = false := by simpa using n21
    have h98 : (⟨#[32, 98]⟩ : ByteArray) = bs [32, 98] := rfl
    have h98s : (bs [32, 98]).size = 2 := rfl
    go_wp2_with fail
    refine (C38w.out _ (Below.refl _ _)).mono ?_; rintro e w6 ⟨rfl, b6⟩
    have B6 := hide (below_step RT.out.1 b6)
    have HX : Hid (s0 ++ sr = bs (preT (k, id, n, ty, ar, tt, nm, pl) ++ sp (ar.map valW))) := hide (by rw [RT.out.2.1, hsr, cat_bs])
    have HZT : Hid (∀ j, (sp ((tt.take j).map labW)).length <= 23000) := hide fun j => by
      have h1 := sp_len ((tt.take j).map labW) 22 fun x hx => by
        simp only [List.mem_map] at hx
        obtain ⟨n, hn, rfl⟩ := hx
        exact lab_len (IT.out n (List.mem_of_mem_take hn))
      have h2 : ((tt.take j).map labW).length <= 1000 := by simp; omega
      have h3 : ((tt.take j).map labW).length * (22 + 1) <= 1000 * 23 := Nat.mul_le_mul h2 (Nat.le_refl _)
      omega
    have HPL : Hid ((preT (k, id, n, ty, ar, tt, nm, pl) ++ sp (ar.map valW)).length <= 23060) := hide (by
      have h1 := RT.out.2.1
      have h2 := congrArg ByteArray.size h1
      rw [bs_size] at h2
      rw [List.length_append]
      omega)
    have HPP : Hid (∀ pp, preT (k, id, n, ty, ar, tt, nm, pl) ++ sp (ar.map valW) = pp -> pp ++ sp (tt.map labW) = preT (k, id, n, ty, ar, tt, nm, pl) ++ sp (ar.map valW ++ tt.map labW)) := hide fun pp h => by rw [<- h, sp_app, List.append_assoc]
    generalize hpp : preT (k, id, n, ty, ar, tt, nm, pl) ++ sp (ar.map valW) = pp at HX HPL
    replace HPP := hide (HPP.out pp hpp)
    clear hpp
    clear c0 c1 c2 c3 c4 c5 c6 c7 b6 hsr hrl
    go_wp2_with fail
    go_loopw [3, 5] (fun s i wr => ∃ (j : Nat) (b : ByteArray), j <= tt.length /\ i = .int .i64 j /\ s = .string b /\ Hid (b = bs (pp ++ sp ((tt.take j).map labW))) /\ Hid (Below W.heap.size W wr)) (fun _ i _ => tt.length - (intOf i).toNat)
    case atStart => exact ⟨0, _, Nat.zero_le _, rfl, rfl, hide (by rw [HX.out]; simp [sp]), B6⟩
    case round =>
      obtain ⟨j, b, hj, rfl, rfl, HBB, HW⟩ := hrel
      have hbz : b.size <= 46060 := by rw [HBB.out, bs_size, List.length_append]; have := HZT.out j; have := HPL.out; omega
      obtain ⟨c0, c1, c2, c3, c4, c5, c6, c7⟩ := box8 ((HW.out.block _ (by omega)).trans H0.out)
      clear c0 c1 c2 c3 c4 c6 c7
      by_cases hlt : j < tt.length
      . obtain ⟨m, hm⟩ : ∃ m, tt[j]? = some m := ⟨_, List.getElem?_eq_getElem hlt⟩
        have HT : Hid (pp ++ sp ((tt.take (j + 1)).map labW) = pp ++ sp ((tt.take j).map labW) ++ [32, 98] ++ dig m) := hide (by
          rw [List.take_add_one, hm]
          simp [sp, labW])
        rcases U0.out with he | ⟨g, o, rfl, hg, hc⟩
        . subst he; simp at hlt
        have hcell := (HW.out.cell (p := ⟨g, o + j, none⟩) hg).trans (hc j m hm)
        have iM : I64 m := IT.out m (List.mem_of_getElem? hm)
        have hlt' : (j : Int) < tt.length := by omega
        have HE := hide ((cat3 b _ [32, 98] (dig m) HBB.out).trans (congrArg bs HT.out.symm))
        have hdz2 : (bs (dig m)).size <= 21 := by rw [bs_size]; exact dig_len iM
        clear hc hm
        go_wp2_with fail
        refine (rsmall_w m wr iM).mono ?_; rintro e w8 ⟨rfl, b8⟩
        generalize bs (dig m) = sg2 at *
        have HW1 := hide (below_step HW.out b8)
        clear b8
        go_wp2_with fail
        go_roundw
        case rel => exact ⟨j + 1, _, by omega, by go_num, rfl, HE, HW1⟩
        case measure => simp [intOf]; omega
      . obtain rfl : j = tt.length := by omega
        have HT : Hid (tt.take tt.length = tt) := hide (by simp)
        go_wp2_with fail
        go_ret
        exact ⟨L5.ret_str (by rw [HBB.out, HT.out, HPP.out]), B0.out.trans (HW.out.mono (by omega))⟩
  . have HP := hide (PY.out hmk)
    have hm1 : (L5.imakes k ty != 0) = true := by simpa using hmk
    generalize L5.imakes k ty = mk at *
    go_wp2_with fail
    refine (rsmall_w id w2 iId).mono ?_; rintro e w3 ⟨rfl, b3⟩
    have hdz : (bs (dig id)).size <= 21 := by rw [bs_size]; exact dig_len iId
    have B3 := hide (below_step B2.out b3)
    clear c0 c1 c2 c3 c4 c5 c6 c7 b3
    obtain ⟨c0, c1, c2, c3, c4, c5, c6, c7⟩ := box8 ((B3.out.block _ (by omega)).trans H0.out)
    have h37 : (⟨#[37]⟩ : ByteArray) = bs [37] := rfl
    have h61 : (⟨#[32, 61, 32]⟩ : ByteArray) = bs [32, 61, 32] := rfl
    have h37s : (bs [37]).size = 1 := rfl
    have h61s : (bs [32, 61, 32]).size = 3 := rfl
    obtain ⟨s4, hs4⟩ : ∃ s4, s4 = bs [37] ++ bs (dig id) ++ bs [32, 61, 32] ++ s0 := ⟨_, rfl⟩
    have hs4' := hs4.symm
    have hz4 : s4.size <= 60 := by rw [hs4, ByteArray.size_append, ByteArray.size_append, ByteArray.size_append]; omega
    have RT : Hid (RTail W w3 s4 (preT (k, id, n, ty, ar, tt, nm, pl))) := hide ⟨B3.out, by rw [hs4, HS0.out]; exact HP.out, hz4⟩
    clear hmk PN PY HS0 HP B1 B2 B3 hs4
    obtain ⟨wq, hwq⟩ : ∃ wq, wq = w3 := ⟨_, rfl⟩
    rw [<- hwq] at RT c0 c1 c2 c3 c4 c5 c6 c7 ⊢
    clear hwq
    generalize bs (dig id) = sg at *
    have AQ := hide (A0.out.below RT.out.1)
    have hz := RT.out.2.2
    have hcl : w.heap.size < wq.heap.size := Nat.lt_of_lt_of_le hz0 RT.out.1.size
    have hrl : (sp (ar.map valW)).length <= 23000 := by
      have h1 := sp_len (ar.map valW) 22 fun x hx => by
        simp only [List.mem_map] at hx
        obtain ⟨n, hn, rfl⟩ := hx
        exact val_len (IA.out n hn)
      have h2 : (ar.map valW).length <= 1000 := by simp; omega
      have h3 : (ar.map valW).length * (22 + 1) <= 1000 * 23 := Nat.mul_le_mul h2 (Nat.le_refl _)
      omega
    obtain ⟨sr, hsr⟩ : ∃ sr, sr = bs (sp (ar.map valW)) := ⟨_, rfl⟩
    have zr : sr.size <= 23000 := by rw [hsr, bs_size]; exact hrl
    have C38w : Hid (∀ w', Below wq.heap.size wq w' -> Calls Tryz.prog 38 #[.slice ao ar.length ca, .int .i64 0] w' fun e w'' => e = .returned (.string sr) /\ Below w'.heap.size w' w'') := hide fun w' bw => by
      rw [hsr]; exact rargs_any ar 0 _ ca _ (AQ.out.below bw) IA.out lA (Nat.zero_le _)
    have h32 : (⟨#[32]⟩ : ByteArray) = bs [32] := rfl
    have h32s : (bs [32]).size = 1 := rfl
    obtain ⟨n1, n23, n29, n10, n11, n12, n15, n24, n13, n14, n20, n21⟩ := hk.out
    replace n1 : (k == 1) = false := by simpa using n1
    replace n23 : (k == 23) = false := by simpa using n23
    replace n29 : (k == 29) = false := by simpa using n29
    replace n10 : (k == 10) = false := by simpa using n10
    replace n11 : (k == 11) = false := by simpa using n11
    replace n12 : (k == 12) = false := by simpa using n12
    replace n15 : (k == 15) = false := by simpa using n15
    replace n24 : (k == 24) = false := by simpa using n24
    replace n13 : (k == 13) = false := by simpa using n13
    replace n14 : (k == 14) = false := by simpa using n14
    replace n20 : (k == 20) = false := by simpa using n20
    replace n21 : (k == 21) = false := by simpa using n21
    have h98 : (⟨#[32, 98]⟩ : ByteArray) = bs [32, 98] := rfl
    have h98s : (bs [32, 98]).size = 2 := rfl
    go_wp2_with fail
    refine (C38w.out _ (Below.refl _ _)).mono ?_; rintro e w6 ⟨rfl, b6⟩
    have B6 := hide (below_step RT.out.1 b6)
    have HX : Hid (s4 ++ sr = bs (preT (k, id, n, ty, ar, tt, nm, pl) ++ sp (ar.map valW))) := hide (by rw [RT.out.2.1, hsr, cat_bs])
    have HZT : Hid (∀ j, (sp ((tt.take j).map labW)).length <= 23000) := hide fun j => by
      have h1 := sp_len ((tt.take j).map labW) 22 fun x hx => by
        simp only [List.mem_map] at hx
        obtain ⟨n, hn, rfl⟩ := hx
        exact lab_len (IT.out n (List.mem_of_mem_take hn))
      have h2 : ((tt.take j).map labW).length <= 1000 := by simp; omega
      have h3 : ((tt.take j).map labW).length * (22 + 1) <= 1000 * 23 := Nat.mul_le_mul h2 (Nat.le_refl _)
      omega
    have HPL : Hid ((preT (k, id, n, ty, ar, tt, nm, pl) ++ sp (ar.map valW)).length <= 23060) := hide (by
      have h1 := RT.out.2.1
      have h2 := congrArg ByteArray.size h1
      rw [bs_size] at h2
      rw [List.length_append]
      omega)
    have HPP : Hid (∀ pp, preT (k, id, n, ty, ar, tt, nm, pl) ++ sp (ar.map valW) = pp -> pp ++ sp (tt.map labW) = preT (k, id, n, ty, ar, tt, nm, pl) ++ sp (ar.map valW ++ tt.map labW)) := hide fun pp h => by rw [<- h, sp_app, List.append_assoc]
    generalize hpp : preT (k, id, n, ty, ar, tt, nm, pl) ++ sp (ar.map valW) = pp at HX HPL
    replace HPP := hide (HPP.out pp hpp)
    clear hpp
    clear c0 c1 c2 c3 c4 c5 c6 c7 b6 hsr hrl
    go_wp2_with fail
    go_loopw [3, 5] (fun s i wr => ∃ (j : Nat) (b : ByteArray), j <= tt.length /\ i = .int .i64 j /\ s = .string b /\ Hid (b = bs (pp ++ sp ((tt.take j).map labW))) /\ Hid (Below W.heap.size W wr)) (fun _ i _ => tt.length - (intOf i).toNat)
    case atStart => exact ⟨0, _, Nat.zero_le _, rfl, rfl, hide (by rw [HX.out]; simp [sp]), B6⟩
    case round =>
      obtain ⟨j, b, hj, rfl, rfl, HBB, HW⟩ := hrel
      have hbz : b.size <= 46060 := by rw [HBB.out, bs_size, List.length_append]; have := HZT.out j; have := HPL.out; omega
      obtain ⟨c0, c1, c2, c3, c4, c5, c6, c7⟩ := box8 ((HW.out.block _ (by omega)).trans H0.out)
      clear c0 c1 c2 c3 c4 c6 c7
      by_cases hlt : j < tt.length
      . obtain ⟨m, hm⟩ : ∃ m, tt[j]? = some m := ⟨_, List.getElem?_eq_getElem hlt⟩
        have HT : Hid (pp ++ sp ((tt.take (j + 1)).map labW) = pp ++ sp ((tt.take j).map labW) ++ [32, 98] ++ dig m) := hide (by
          rw [List.take_add_one, hm]
          simp [sp, labW])
        rcases U0.out with he | ⟨g, o, rfl, hg, hc⟩
        . subst he; simp at hlt
        have hcell := (HW.out.cell (p := ⟨g, o + j, none⟩) hg).trans (hc j m hm)
        have iM : I64 m := IT.out m (List.mem_of_getElem? hm)
        have hlt' : (j : Int) < tt.length := by omega
        have HE := hide ((cat3 b _ [32, 98] (dig m) HBB.out).trans (congrArg bs HT.out.symm))
        have hdz2 : (bs (dig m)).size <= 21 := by rw [bs_size]; exact dig_len iM
        clear hc hm
        go_wp2_with fail
        refine (rsmall_w m wr iM).mono ?_; rintro e w8 ⟨rfl, b8⟩
        generalize bs (dig m) = sg2 at *
        have HW1 := hide (below_step HW.out b8)
        clear b8
        go_wp2_with fail
        go_roundw
        case rel => exact ⟨j + 1, _, by omega, by go_num, rfl, HE, HW1⟩
        case measure => simp [intOf]; omega
      . obtain rfl : j = tt.length := by omega
        have HT : Hid (tt.take tt.length = tt) := hide (by simp)
        go_wp2_with fail
        go_ret
        exact ⟨L5.ret_str (by rw [HBB.out, HT.out, HPP.out]), B0.out.trans (HW.out.mono (by omega))⟩
end Go.Proofs.YtahhbckccdigoaaGreatDoor
