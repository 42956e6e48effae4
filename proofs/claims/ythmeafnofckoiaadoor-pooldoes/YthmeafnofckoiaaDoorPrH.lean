/- Layer 12: whatever is done, each call answers as the document says (PoolDoes), over memory. -/
import Derived.Test.YthmeafnofckoiaaDoorPrG
namespace Go.Proofs.YthmeafnofckoiaaDoor
open Go Go.RowKit
open Layertwelve (Ob trapF objN loadF storeF slotF wordsF shapeF makeF firstF slotsF goF reachF Ok)

set_option maxHeartbeats 8000000 in
set_option maxRecDepth 20000 in
theorem does_any (L : List OpT) (id slot : Int) (ao : Option Addr) (c : Nat) (w : World) (hL : OpsR w L ao) (ht : Tab w) :
    Calls Tryd.prog 3 #[.slice ao L.length c, .int .i64 id, .int .i64 slot] w fun e w' => e = .returned (.bool true) ∧ Below w.heap.size w w' := by
  have CW := hide (fun wr (b : Below w.heap.size w wr) => works_any wr (ht.below b))
  have HT := hide ht
  by_cases hl60 : 60 < L.length
  · have h60 : (60 : Int) < (L.length : Int) := by omega
    clear hL ht
    generalize L.length = ln at *
    go_enter Tryd.func3, Tryd.ntmps3
    go_wp2_with fail
    refine (CW.out w (Below.refl _ _)).mono ?_; rintro e w1 ⟨rfl, b1⟩
    have B1 := hide b1
    clear b1
    go_wp2_with fail
    go_ret
    exact ⟨rfl, B1.out⟩
  have CN := hide (jnew_any w)
  obtain ⟨gp, hgp⟩ : ∃ g, g = w.heap.size := ⟨_, rfl⟩
  rw [← hgp] at CN
  have HGP := hide hgp
  clear hgp
  have HLen : Hid (∀ i, i < L.length → ∃ (g o : Nat) (x : OpT), ao = some ⟨g, o, none⟩ ∧ ∀ w', Below w.heap.size w w' → OpAt w' x g (o + i * 6)) := hide (fun i hi => hL.at hi)
  clear hL ht
  have h60 : (L.length : Int) ≤ 60 := by omega
  generalize L.length = ln at *
  go_enter Tryd.func3, Tryd.ntmps3
  go_wp2_with fail
  refine CN.out.mono ?_; rintro e w1 ⟨rfl, p1⟩
  have HP1 := hide p1
  clear p1 CN
  go_wp2_with fail
  go_loopw [8, 9] (fun rv iv wr => ∃ (i : Nat) (l : List Ob), i ≤ ln ∧ iv = .int .i64 i ∧ l.length ≤ i ∧ Hid (∀ o ∈ l, Sh o) ∧ Hid (JR w gp l l rv wr)) (fun _ iv _ => ln - (intOf iv).toNat)
  case atStart => exact ⟨0, [], Nat.zero_le _, rfl, Nat.le_refl _, hide (by simp), hide (by rw [HGP.out]; rw [HGP.out] at HP1; exact HP1.out)⟩
  case round =>
    obtain ⟨i, l, hi, rfl, hli, HS, HP⟩ := hrel
    clear HP1
    by_cases hit : i < ln
    · have hiI : (i : Int) < (ln : Int) := by omega
      obtain ⟨g, o, x, rfl, hx⟩ := HLen.out i hit
      obtain ⟨⟨a0, a1, a2, a3, a4, a5⟩, a6⟩ := hx wr HP.out.down
      clear hx
      obtain ⟨x0, x1, x2, x3, x4, x5⟩ := x
      have HJ := hide (HP.out.box #[.int .i64 x0, .int .i64 x1, .int .i64 x2, .bool x3, .int .i64 x4, .int .u16 (x5 : Int)])
      obtain ⟨ro, rc, rfl⟩ := HP.out.val
      clear HP
      go_upto_region 11 with fail
      show Code.wp _ _ _ _ (wr.alloc (.cells #[.int .i64 x0, .int .i64 x1, .int .i64 x2, .bool x3, .int .i64 x4, .int .u16 (x5 : Int)] 29))
      generalize wr.alloc (.cells #[.int .i64 x0, .int .i64 x1, .int .i64 x2, .bool x3, .int .i64 x4, .int .u16 (x5 : Int)] 29) = wb at *
      generalize wr.heap.size = bb at *
      clear a0 a1 a2 a3 a4 a5
      obtain ⟨a0, a1, a2, a3, a4, a5⟩ := HJ.out.cells
      by_cases hk0 : x0 = 0
      · subst hk0
        have hS := shN_le x2
        have hM : x5 % 2 ^ shN x2 < 2 ^ shN x2 := Nat.mod_lt _ (Nat.two_pow_pos _)
        have CS := hide (lshape_any x2 x5 wb a6)
        have HSn := hide (sh_make HS.out hS hM)
        have hlen : (makeF l (shN x2, x5 % 2 ^ shN x2)).length ≤ i + 1 := by simp [makeF]; omega
        have CR := hide (fun w' (b : Below wb.heap.size wb w') => jrmake_any (shN x2) (x5 % 2 ^ shN x2) (HJ.out.below b) hS (by omega))
        have CM := hide (fun lr rv w' (h : JJ w gp l lr rv bb #[.int .i64 0, .int .i64 x1, .int .i64 x2, .bool x3, .int .i64 x4, .int .u16 (x5 : Int)] w') => jpmake_any (shN x2) (x5 % 2 ^ shN x2) h HS.out hS hM (by omega))
        have HLn : Hid ((makeF l (shN x2, x5 % 2 ^ shN x2)).length = l.length + 1) := hide (by simp [makeF])
        clear hS hM a1 a3 a4 a6
        generalize makeF l (shN x2, x5 % 2 ^ shN x2) = l2 at *
        generalize x5 % 2 ^ shN x2 = mm at *
        generalize shN x2 = nn at *
        go_wp2_with fail
        refine CS.out.mono ?_; rintro e w2 ⟨rfl, b2⟩
        have b3 := below_step b2 (below_box w2 (.cells #[.int .i64 (nn : Int), .int .i64 (mm : Int)] 31))
        have z0 : (w2.alloc (.cells #[.int .i64 (nn : Int), .int .i64 (mm : Int)] 31)).cell? ⟨w2.heap.size, 0, none⟩ = some (.int .i64 (nn : Int)) := by simp
        have z1 : (w2.alloc (.cells #[.int .i64 (nn : Int), .int .i64 (mm : Int)] 31)).cell? ⟨w2.heap.size, 1, none⟩ = some (.int .i64 (mm : Int)) := by simp
        have hz : w2.heap.size < (w2.alloc (.cells #[.int .i64 (nn : Int), .int .i64 (mm : Int)] 31)).heap.size := by simp
        clear CS a0 a2 a5 b2
        go_upto_region 17 with fail
        show Code.wp _ _ _ _ (w2.alloc (.cells #[.int .i64 (nn : Int), .int .i64 (mm : Int)] 31))
        generalize w2.alloc (.cells #[.int .i64 (nn : Int), .int .i64 (mm : Int)] 31) = w3 at *
        have CR2 := hide (CR.out w3 b3)
        clear CR b3
        go_wp2_with fail
        refine CR2.out.mono ?_; rintro e w4 ⟨⟨v4, rfl, j4⟩, b4⟩
        replace z0 := (b4.cell (p := ⟨w2.heap.size, 0, none⟩) hz).trans z0
        replace z1 := (b4.cell (p := ⟨w2.heap.size, 1, none⟩) hz).trans z1
        obtain ⟨qo, qc, rfl⟩ := j4.jr.val
        rw [HLn.out] at j4
        have CM2 := hide (CM.out _ _ w4 j4)
        rw [HLn.out]
        clear CM j4 b4 CR2 HJ hz
        have yq : (((l.length : Int) + 1) != ((l.length : Int) + 1)) = false := by simp
        go_upto_region 18 with fail
        go_wp2_with fail
        refine CM2.out.mono ?_; rintro e W ⟨rfl, j5⟩
        have HJ := hide j5
        clear CM2 j5 z0 z1
        go_upto_region 30 with fail
        rw [← HLn.out] at HJ
        rw [← HLn.out]

        have c1 := fun x => (HJ.out.below (grewTo_below W x)).cells.2.1
        have c2 := fun x => (HJ.out.below (grewTo_below W x)).cells.2.2.1
        have K16 := hide (fun x => plen_any l2 gp (grewTo W x) ((HJ.out.below (grewTo_below W x)).jr.pool HSn.out))
        have K17 := hide (fun x => pwords_any l2 gp (grewTo W x) ((HJ.out.below (grewTo_below W x)).jr.pool HSn.out))
        have K18 := hide (fun x => rwords_any l2 qo qc (grewTo W x) (HJ.out.below (grewTo_below W x)).jr.objs HSn.out (by omega))
        have K19 := hide (fun x => pslot_any l2 x1 x2 gp (grewTo W x) ((HJ.out.below (grewTo_below W x)).jr.pool HSn.out) HSn.out)
        have K20 := hide (fun x => rslot_any l2 x1 x2 qo qc (grewTo W x) (HJ.out.below (grewTo_below W x)).jr.objs HSn.out)
        have K21 := hide (fun x => pshape_any l2 x1 gp (grewTo W x) ((HJ.out.below (grewTo_below W x)).jr.pool HSn.out))
        have K22 := hide (fun x => rshape_any l2 x1 qo qc (grewTo W x) (HJ.out.below (grewTo_below W x)).jr.objs)
        have HL2 : Hid (∃ n, n = l2.length) := hide ⟨_, rfl⟩
        obtain ⟨m2, hm2⟩ : ∃ n, n = l2.length := ⟨_, rfl⟩
        rw [← hm2] at K16 K18 K20 K22 hlen
        have HM2 := hide hm2
        generalize (wordsF l2 : Int) = ww at *
        generalize slotF has l2 x1 x2 = sf at *
        generalize ((shapeF l2 x1).1 : Int) = sh1 at *
        generalize ((shapeF l2 x1).2 : Int) = sh2 at *
        have y1 : ((m2 : Int) != m2) = false := by simp
        have y2 : (ww != ww) = false := by simp
        have y3 : (sf != sf) = false := by simp
        rw [← hm2]
        clear hm2
        refine region_grew (by kernel_rfl) (by kernel_rfl) ?_
        repeat (go_big_quiet_step ((first
          | (go_at_call 16; exact calls_grew_same (K16.out _))
          | (go_at_call 17; exact calls_grew_same (K17.out _))
          | (go_at_call 18; exact calls_grew (K18.out _))
          | (go_at_call 19; exact calls_grew (K19.out _))
          | (go_at_call 20; exact calls_grew (K20.out _))
          | (go_at_call 21; exact calls_grew (K21.out _))
          | (go_at_call 22; exact calls_grew (K22.out _)))))
        refine wpQuiet_nil ?_
        rintro _ ⟨x, rfl⟩
        have HJ2 : Hid (JR w gp l2 l2 (.slice qo m2 qc) (grewTo W x)) := hide (by rw [HM2.out]; exact (HJ.out.below (grewTo_below W x)).jr)
        clear K16 K17 K18 K19 K20 K21 K22 c1 c2
        go_wp2_with fail
        go_roundw
        case rel => exact ⟨i + 1, l2, by omega, by go_num, by rw [← HM2.out]; exact hlen, HSn, HJ2⟩
        case measure => simp [intOf]; omega
      have k0 : (x0 == 0) = false := by simpa using hk0
      by_cases hk1 : x0 = 1
      · subst hk1
        clear k0 hk0
        have C1 := hide (pload_any l x1 x2 x3 gp wb (HJ.out.jr.pool HS.out) HS.out (HT.out.below HJ.out.jr.down))
        have C2 := hide (fun w' (b : Below wb.heap.size wb w') => rload_any l x1 x2 x3 ro rc w' (HJ.out.below b).jr.objs HS.out)
        have HC := hide (fun w' (b : Below wb.heap.size wb w') => (HJ.out.below b).cells)
        generalize loadF has l x1 x2 x3 = lv at *
        obtain ⟨lv1, lv2⟩ := lv
        clear a5 a4 a6
        have y5 : (lv1 != lv1) = false := by simp
        have y6 : (lv2 != lv2) = false := by simp
        go_wp2_with fail
        refine C1.out.mono ?_; rintro e w2 ⟨rfl, b2⟩
        clear a0 a1 a2 a3 C1
        obtain ⟨_, a1, a2, a3, _, _⟩ := HC.out w2 b2
        have C3 := hide (C2.out w2 b2)
        have B2 := hide b2
        clear C2 b2
        go_wp2_with fail
        refine C3.out.mono ?_; rintro e W ⟨rfl, b3⟩
        have HJn := hide (HJ.out.below (below_step B2.out b3))
        clear HJ C3 b3 B2 a1 a2 a3 HC
        have HJ := HJn
        clear HJn
        go_upto_region 30 with fail
        have HSn := HS
        have hlen : l.length ≤ i + 1 := by omega
        generalize l = l2 at *
        generalize ro = qo at *
        generalize rc = qc at *

        have c1 := fun x => (HJ.out.below (grewTo_below W x)).cells.2.1
        have c2 := fun x => (HJ.out.below (grewTo_below W x)).cells.2.2.1
        have K16 := hide (fun x => plen_any l2 gp (grewTo W x) ((HJ.out.below (grewTo_below W x)).jr.pool HSn.out))
        have K17 := hide (fun x => pwords_any l2 gp (grewTo W x) ((HJ.out.below (grewTo_below W x)).jr.pool HSn.out))
        have K18 := hide (fun x => rwords_any l2 qo qc (grewTo W x) (HJ.out.below (grewTo_below W x)).jr.objs HSn.out (by omega))
        have K19 := hide (fun x => pslot_any l2 x1 x2 gp (grewTo W x) ((HJ.out.below (grewTo_below W x)).jr.pool HSn.out) HSn.out)
        have K20 := hide (fun x => rslot_any l2 x1 x2 qo qc (grewTo W x) (HJ.out.below (grewTo_below W x)).jr.objs HSn.out)
        have K21 := hide (fun x => pshape_any l2 x1 gp (grewTo W x) ((HJ.out.below (grewTo_below W x)).jr.pool HSn.out))
        have K22 := hide (fun x => rshape_any l2 x1 qo qc (grewTo W x) (HJ.out.below (grewTo_below W x)).jr.objs)
        have HL2 : Hid (∃ n, n = l2.length) := hide ⟨_, rfl⟩
        obtain ⟨m2, hm2⟩ : ∃ n, n = l2.length := ⟨_, rfl⟩
        rw [← hm2] at K16 K18 K20 K22 hlen
        have HM2 := hide hm2
        generalize (wordsF l2 : Int) = ww at *
        generalize slotF has l2 x1 x2 = sf at *
        generalize ((shapeF l2 x1).1 : Int) = sh1 at *
        generalize ((shapeF l2 x1).2 : Int) = sh2 at *
        have y1 : ((m2 : Int) != m2) = false := by simp
        have y2 : (ww != ww) = false := by simp
        have y3 : (sf != sf) = false := by simp
        rw [← hm2]
        clear hm2
        refine region_grew (by kernel_rfl) (by kernel_rfl) ?_
        repeat (go_big_quiet_step ((first
          | (go_at_call 16; exact calls_grew_same (K16.out _))
          | (go_at_call 17; exact calls_grew_same (K17.out _))
          | (go_at_call 18; exact calls_grew (K18.out _))
          | (go_at_call 19; exact calls_grew (K19.out _))
          | (go_at_call 20; exact calls_grew (K20.out _))
          | (go_at_call 21; exact calls_grew (K21.out _))
          | (go_at_call 22; exact calls_grew (K22.out _)))))
        refine wpQuiet_nil ?_
        rintro _ ⟨x, rfl⟩
        have HJ2 : Hid (JR w gp l2 l2 (.slice qo m2 qc) (grewTo W x)) := hide (by rw [HM2.out]; exact (HJ.out.below (grewTo_below W x)).jr)
        clear K16 K17 K18 K19 K20 K21 K22 c1 c2
        go_wp2_with fail
        go_roundw
        case rel => exact ⟨i + 1, l2, by omega, by go_num, by rw [← HM2.out]; exact hlen, HSn, HJ2⟩
        case measure => simp [intOf]; omega
      have k1 : (x0 == 1) = false := by simpa using hk1
      by_cases hk2 : x0 = 2
      · subst hk2
        clear k0 hk0 k1 hk1
        have C1 := hide (jrstore_any x1 x2 x3 x4 HJ.out HS.out (by omega))
        have C2 := hide (fun lr rv w' (h : JJ w gp l lr rv bb #[.int .i64 2, .int .i64 x1, .int .i64 x2, .bool x3, .int .i64 x4, .int .u16 (x5 : Int)] w') => jpstore_any x1 x2 x3 x4 h HS.out HT.out)
        have HSn := hide (sh_store (id := x1) (slot := x2) (p := x3) (n := x4) HS.out)
        have hlen : (storeF has l x1 x2 x3 x4).length ≤ i + 1 := by rw [store_len12]; omega
        generalize storeF has l x1 x2 x3 x4 = l2 at *
        generalize trapF has l x1 x2 x3 = tr at *
        have y5 : (tr != tr) = false := by simp
        clear a5 a6
        go_wp2_with fail
        refine C1.out.mono ?_; rintro e w2 ⟨v2, rfl, j2⟩
        clear a0 a1 a2 a3 a4 C1 HJ
        obtain ⟨qo, qc, rfl⟩ := j2.jr.val
        obtain ⟨a0, a1, a2, a3, a4, _⟩ := j2.cells
        have C3 := hide (C2.out _ _ w2 j2)
        clear C2 j2
        go_wp2_with fail
        refine C3.out.mono ?_; rintro e W ⟨rfl, j3⟩
        have HJ := hide j3
        clear C3 j3 a0 a1 a2 a3 a4
        go_upto_region 30 with fail

        have c1 := fun x => (HJ.out.below (grewTo_below W x)).cells.2.1
        have c2 := fun x => (HJ.out.below (grewTo_below W x)).cells.2.2.1
        have K16 := hide (fun x => plen_any l2 gp (grewTo W x) ((HJ.out.below (grewTo_below W x)).jr.pool HSn.out))
        have K17 := hide (fun x => pwords_any l2 gp (grewTo W x) ((HJ.out.below (grewTo_below W x)).jr.pool HSn.out))
        have K18 := hide (fun x => rwords_any l2 qo qc (grewTo W x) (HJ.out.below (grewTo_below W x)).jr.objs HSn.out (by omega))
        have K19 := hide (fun x => pslot_any l2 x1 x2 gp (grewTo W x) ((HJ.out.below (grewTo_below W x)).jr.pool HSn.out) HSn.out)
        have K20 := hide (fun x => rslot_any l2 x1 x2 qo qc (grewTo W x) (HJ.out.below (grewTo_below W x)).jr.objs HSn.out)
        have K21 := hide (fun x => pshape_any l2 x1 gp (grewTo W x) ((HJ.out.below (grewTo_below W x)).jr.pool HSn.out))
        have K22 := hide (fun x => rshape_any l2 x1 qo qc (grewTo W x) (HJ.out.below (grewTo_below W x)).jr.objs)
        have HL2 : Hid (∃ n, n = l2.length) := hide ⟨_, rfl⟩
        obtain ⟨m2, hm2⟩ : ∃ n, n = l2.length := ⟨_, rfl⟩
        rw [← hm2] at K16 K18 K20 K22 hlen
        have HM2 := hide hm2
        generalize (wordsF l2 : Int) = ww at *
        generalize slotF has l2 x1 x2 = sf at *
        generalize ((shapeF l2 x1).1 : Int) = sh1 at *
        generalize ((shapeF l2 x1).2 : Int) = sh2 at *
        have y1 : ((m2 : Int) != m2) = false := by simp
        have y2 : (ww != ww) = false := by simp
        have y3 : (sf != sf) = false := by simp
        rw [← hm2]
        clear hm2
        refine region_grew (by kernel_rfl) (by kernel_rfl) ?_
        repeat (go_big_quiet_step ((first
          | (go_at_call 16; exact calls_grew_same (K16.out _))
          | (go_at_call 17; exact calls_grew_same (K17.out _))
          | (go_at_call 18; exact calls_grew (K18.out _))
          | (go_at_call 19; exact calls_grew (K19.out _))
          | (go_at_call 20; exact calls_grew (K20.out _))
          | (go_at_call 21; exact calls_grew (K21.out _))
          | (go_at_call 22; exact calls_grew (K22.out _)))))
        refine wpQuiet_nil ?_
        rintro _ ⟨x, rfl⟩
        have HJ2 : Hid (JR w gp l2 l2 (.slice qo m2 qc) (grewTo W x)) := hide (by rw [HM2.out]; exact (HJ.out.below (grewTo_below W x)).jr)
        clear K16 K17 K18 K19 K20 K21 K22 c1 c2
        go_wp2_with fail
        go_roundw
        case rel => exact ⟨i + 1, l2, by omega, by go_num, by rw [← HM2.out]; exact hlen, HSn, HJ2⟩
        case measure => simp [intOf]; omega
      have k2 : (x0 == 2) = false := by simpa using hk2
      clear hk0 hk1 hk2
      by_cases hk7 : x4.tmod 7 = 0
      · skip
        have k7 : (x4.tmod 7 == 0) = true := by simpa using hk7
        have C1 := hide (jwipe_any HJ.out)
        clear hk7 a1 a2 a3 a5 a6
        go_wp2_with fail
        refine C1.out.mono ?_; rintro e W ⟨rfl, j3⟩
        have HJ0 := hide j3
        clear C1 j3 a0 a4 HJ
        go_upto_region 30 with fail

        have c1 := fun x => (HJ0.out.below (grewTo_below W x)).cells.2.1
        have c2 := fun x => (HJ0.out.below (grewTo_below W x)).cells.2.2.1
        have K16 : Hid (∀ x, Calls Tryd.prog 16 #[.pointer (some ⟨gp, 0, none⟩)] (grewTo W x) fun e w' => e = .returned (.int .i64 0) ∧ w' = grewTo W x) := hide (fun x => plen_any [] gp (grewTo W x) ((HJ0.out.below (grewTo_below W x)).jr.pool (by simp)))
        have K17 : Hid (∀ x, Calls Tryd.prog 17 #[.pointer (some ⟨gp, 0, none⟩)] (grewTo W x) fun e w' => e = .returned (.int .i64 0) ∧ w' = grewTo W x) := hide (fun x => pwords_any [] gp (grewTo W x) ((HJ0.out.below (grewTo_below W x)).jr.pool (by simp)))
        have K18 : Hid (∀ x, Calls Tryd.prog 18 #[.slice none 0 0] (grewTo W x) fun e w' => e = .returned (.int .i64 0) ∧ Below (grewTo W x).heap.size (grewTo W x) w') := hide (fun x => rwords_any [] none 0 (grewTo W x) (HJ0.out.below (grewTo_below W x)).jr.objs (by simp) (by simp))
        have K19 := hide (fun x => pslot_any [] x1 x2 gp (grewTo W x) ((HJ0.out.below (grewTo_below W x)).jr.pool (by simp)) (by simp))
        have K20 : Hid (∀ x, Calls Tryd.prog 20 #[.slice none 0 0, .int .i64 x1, .int .i64 x2] (grewTo W x) fun e w' => e = .returned (.int .i64 (slotF has [] x1 x2)) ∧ Below (grewTo W x).heap.size (grewTo W x) w') := hide (fun x => rslot_any [] x1 x2 none 0 (grewTo W x) (HJ0.out.below (grewTo_below W x)).jr.objs (by simp))
        have K21 := hide (fun x => pshape_any [] x1 gp (grewTo W x) ((HJ0.out.below (grewTo_below W x)).jr.pool (by simp)))
        have K22 : Hid (∀ x, Calls Tryd.prog 22 #[.slice none 0 0, .int .i64 x1] (grewTo W x) fun e w' => e = .returned (.agg #[.int .i64 ((shapeF [] x1).1 : Int), .int .i64 ((shapeF [] x1).2 : Int)]) ∧ Below (grewTo W x).heap.size (grewTo W x) w') := hide (fun x => rshape_any [] x1 none 0 (grewTo W x) (HJ0.out.below (grewTo_below W x)).jr.objs)
        generalize slotF has [] x1 x2 = sf at *
        generalize ((shapeF [] x1).1 : Int) = sh1 at *
        generalize ((shapeF [] x1).2 : Int) = sh2 at *
        have y3 : (sf != sf) = false := by simp
        refine region_grew (by kernel_rfl) (by kernel_rfl) ?_
        repeat (go_big_quiet_step ((first
          | (go_at_call 16; exact calls_grew_same (K16.out _))
          | (go_at_call 17; exact calls_grew_same (K17.out _))
          | (go_at_call 18; exact calls_grew (K18.out _))
          | (go_at_call 19; exact calls_grew (K19.out _))
          | (go_at_call 20; exact calls_grew (K20.out _))
          | (go_at_call 21; exact calls_grew (K21.out _))
          | (go_at_call 22; exact calls_grew (K22.out _)))))
        refine wpQuiet_nil ?_
        rintro _ ⟨x, rfl⟩
        have HJ2 : Hid (JR w gp [] [] (.slice none 0 0) (grewTo W x)) := hide (HJ0.out.below (grewTo_below W x)).jr
        clear K16 K17 K18 K19 K20 K21 K22 c1 c2
        go_wp2_with fail
        go_roundw
        case rel => exact ⟨i + 1, [], by omega, by go_num, by simp, hide (by simp), HJ2⟩
        case measure => simp [intOf]; omega
      · skip
        have k7 : (x4.tmod 7 == 0) = false := by simpa using hk7
        clear hk7 a1 a2 a3 a5 a6
        go_upto_region 30 with fail
        have HSn := HS
        have hlen : l.length ≤ i + 1 := by omega
        clear a0 a4
        generalize l = l2 at *
        generalize ro = qo at *
        generalize rc = qc at *
        generalize wb = W at *

        have c1 := fun x => (HJ.out.below (grewTo_below W x)).cells.2.1
        have c2 := fun x => (HJ.out.below (grewTo_below W x)).cells.2.2.1
        have K16 := hide (fun x => plen_any l2 gp (grewTo W x) ((HJ.out.below (grewTo_below W x)).jr.pool HSn.out))
        have K17 := hide (fun x => pwords_any l2 gp (grewTo W x) ((HJ.out.below (grewTo_below W x)).jr.pool HSn.out))
        have K18 := hide (fun x => rwords_any l2 qo qc (grewTo W x) (HJ.out.below (grewTo_below W x)).jr.objs HSn.out (by omega))
        have K19 := hide (fun x => pslot_any l2 x1 x2 gp (grewTo W x) ((HJ.out.below (grewTo_below W x)).jr.pool HSn.out) HSn.out)
        have K20 := hide (fun x => rslot_any l2 x1 x2 qo qc (grewTo W x) (HJ.out.below (grewTo_below W x)).jr.objs HSn.out)
        have K21 := hide (fun x => pshape_any l2 x1 gp (grewTo W x) ((HJ.out.below (grewTo_below W x)).jr.pool HSn.out))
        have K22 := hide (fun x => rshape_any l2 x1 qo qc (grewTo W x) (HJ.out.below (grewTo_below W x)).jr.objs)
        have HL2 : Hid (∃ n, n = l2.length) := hide ⟨_, rfl⟩
        obtain ⟨m2, hm2⟩ : ∃ n, n = l2.length := ⟨_, rfl⟩
        rw [← hm2] at K16 K18 K20 K22 hlen
        have HM2 := hide hm2
        generalize (wordsF l2 : Int) = ww at *
        generalize slotF has l2 x1 x2 = sf at *
        generalize ((shapeF l2 x1).1 : Int) = sh1 at *
        generalize ((shapeF l2 x1).2 : Int) = sh2 at *
        have y1 : ((m2 : Int) != m2) = false := by simp
        have y2 : (ww != ww) = false := by simp
        have y3 : (sf != sf) = false := by simp
        rw [← hm2]
        clear hm2
        refine region_grew (by kernel_rfl) (by kernel_rfl) ?_
        repeat (go_big_quiet_step ((first
          | (go_at_call 16; exact calls_grew_same (K16.out _))
          | (go_at_call 17; exact calls_grew_same (K17.out _))
          | (go_at_call 18; exact calls_grew (K18.out _))
          | (go_at_call 19; exact calls_grew (K19.out _))
          | (go_at_call 20; exact calls_grew (K20.out _))
          | (go_at_call 21; exact calls_grew (K21.out _))
          | (go_at_call 22; exact calls_grew (K22.out _)))))
        refine wpQuiet_nil ?_
        rintro _ ⟨x, rfl⟩
        have HJ2 : Hid (JR w gp l2 l2 (.slice qo m2 qc) (grewTo W x)) := hide (by rw [HM2.out]; exact (HJ.out.below (grewTo_below W x)).jr)
        clear K16 K17 K18 K19 K20 K21 K22 c1 c2
        go_wp2_with fail
        go_roundw
        case rel => exact ⟨i + 1, l2, by omega, by go_num, by rw [← HM2.out]; exact hlen, HSn, HJ2⟩
        case measure => simp [intOf]; omega
    · skip
      obtain rfl : i = ln := by omega
      obtain ⟨ro, rc, rfl⟩ := HP.out.val
      have HOk := hide (Layertwelve.reach_walk (has := has) l [id, slot]).1
      have C19 := hide (pslot_any l id slot gp wr (HP.out.pool HS.out) HS.out)
      have C20 := hide (fun w' (b : Below wr.heap.size wr w') => rslot_any l id slot ro rc w' (HP.out.below b).objs HS.out)
      have C24 := hide (fun fo fc w' (b : Below wr.heap.size wr w') (hf : IntsR w' [id, slot] fo) => preach_any l [id, slot] gp fo fc w' ((HP.out.below b).pool HS.out) HS.out (HT.out.below (HP.out.below b).down) (by omega) hf (by simp))
      have C25 := hide (fun fo fc w' (b : Below wr.heap.size wr w') (hf : IntsR w' [id, slot] fo) => rreach_any l [id, slot] ro rc fo fc w' (HP.out.below b).objs HS.out (by omega) hf (by simp))
      have CW2 := hide (fun w' (b : Below wr.heap.size wr w') => CW.out w' (HP.out.below b).down)
      have HD := hide (fun w' (b : Below wr.heap.size wr w') => (HP.out.below b).down)
      have hR := HOk.out.len
      generalize reachF has l [id, slot] = R at *
      generalize slotF has l id slot = sf at *
      have y1 : (sf == sf) = true := by simp
      clear HP HLen CW HOk HS
      go_wp2_with fail
      refine C19.out.mono ?_; rintro e w2 ⟨rfl, b2⟩
      have C20' := hide (C20.out w2 b2)
      have B2 := hide b2
      clear C19 C20 b2
      go_wp2_with fail
      refine C20'.out.mono ?_; rintro e w3 ⟨rfl, b3⟩
      have B3 := hide (below_step B2.out b3)
      have B4 := hide (below_step B3.out (below_box w3 (.cells #[.int .i64 id, .int .i64 slot] 3)))
      have C24' := hide (C24.out _ 2 _ B4.out (two_ints w3 id slot))
      clear C20' b3 B2 C24
      go_wp2_with fail
      refine C24'.out.mono ?_; rintro e w4 ⟨v4, rfl, o4⟩
      have B5 := hide (below_step B4.out o4.2)
      have B6 := hide (below_step B5.out (below_box w4 (.cells #[.int .i64 id, .int .i64 slot] 3)))
      have C25' := hide (C25.out _ 2 _ B6.out (two_ints w4 id slot))
      obtain ⟨q4, p4, rfl, i4⟩ := o4.val
      have I4 := hide (i4.below (below_box w4 (.cells #[.int .i64 id, .int .i64 slot] 3)))
      clear C24' C25 o4 i4 B3 B4
      go_wp2_with fail
      refine C25'.out.mono ?_; rintro e w5 ⟨v5, rfl, o5⟩
      have B7 := hide (below_step B6.out o5.2)
      obtain ⟨q5, p5, rfl, i5⟩ := o5.val
      have C23 := hide (ints_same R q4 q5 p4 p5 w5 (I4.out.below o5.2) i5 (by omega))
      clear C25' o5 i5 B5 B6 I4
      go_wp2_with fail
      refine C23.out.mono ?_; rintro e w6 ⟨rfl, b6⟩
      have B8 := hide (below_step B7.out b6)
      have CW3 := hide (CW2.out w6 B8.out)
      clear C23 b6 B7 CW2
      go_wp2_with fail
      refine CW3.out.mono ?_; rintro e w7 ⟨rfl, b7⟩
      have B9 := hide (HD.out w7 (below_step B8.out b7))
      clear CW3 b7 B8 HD
      go_wp2_with fail
      go_ret
      exact ⟨rfl, B9.out⟩
end Go.Proofs.YthmeafnofckoiaaDoor
