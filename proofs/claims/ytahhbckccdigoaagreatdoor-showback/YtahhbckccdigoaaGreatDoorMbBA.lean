/- Layer 7: whether an instruction may be written: Check. -/
import Derived.Test.YtahhbckccdigoaaGreatDoorMbAW
import Derived.Test.YtahhbckccdigoaaGreatDoorMbAY
import Derived.Test.YtahhbckccdigoaaGreatDoorMbAZ
set_option maxHeartbeats 8000000
set_option maxRecDepth 20000
namespace Go.Proofs.YtahhbckccdigoaaGreatDoor
open Go Go.RowKit
open G (Tok Er Ins Fun)
theorem shp_form (s : List UInt8) : ∃ a b : Int, L3.readS (bs s) = .tuple #[.agg #[.int .i64 a, .int .i64 b], .int .i64 (shpF s)] := by
  have h : ∃ a b c : Int, L3.readS (bs s) = .tuple #[.agg #[.int .i64 a, .int .i64 b], .int .i64 c] := by
    unfold L3.readS
    split
    . exact ⟨_, _, _, rfl⟩
    . split
      . exact ⟨_, _, _, rfl⟩
      . unfold L3.readL
        split
        . exact ⟨_, _, _, rfl⟩
        . exact ⟨_, _, _, rfl⟩
  obtain ⟨a, b, c, h⟩ := h
  have e : shpF s = c := by unfold shpF; rw [h]; rfl
  exact ⟨a, b, by rw [h, e]⟩
def namC (k : Int) (nm : List UInt8) : Int := if k = 10 then shpF nm else if k = 21 then (if L2.nameB nm then 0 else 4) else (if nm = [] then 0 else 4)
theorem nm_iff (nm : List UInt8) : (bs nm).toList.isEmpty = decide (nm = []) := by
  rw [ByteArray.toList_eq, bs_data]
  cases nm <;> simp
theorem named10 (id n ty pl : Int) (ar tt : List Int) (nm : List UInt8) (ao to : Option Addr) (ca ct : Nat) (w : World) (ht : Tb w) : Calls Tryz.prog 46 #[.agg #[.int .i64 10, .int .i64 id, .int .i64 n, .int .i64 ty, .slice ao ar.length ca, .slice to tt.length ct, .string (bs nm), .int .i64 pl]] w fun e w' => e = .returned (.int .i64 (namC 10 nm)) /\ Below w.heap.size w w' := by
  have b0 := below_box w (o8 10 id n ty pl ao to ar.length tt.length ca ct nm)
  have H0 := hide (heap_alloc_new w (o8 10 id n ty pl ao to ar.length tt.length ca ct nm))
  have B0 := hide b0
  have hz0 : (w.alloc (o8 10 id n ty pl ao to ar.length tt.length ca ct nm)).heap.size > w.heap.size := by simp
  have T0 := hide (ht.below b0)
  clear ht
  clear b0
  go_enter Tryz.func46, Tryz.ntmps46
  go_upto_region 1 with fail
  show Code.wp _ _ _ _ (w.alloc (o8 10 id n ty pl ao to ar.length tt.length ca ct nm))
  generalize w.alloc (o8 10 id n ty pl ao to ar.length tt.length ca ct nm) = W at *
  obtain ⟨c0, c1, c2, c3, c4, c5, c6, c7⟩ := box8 H0.out
  obtain ⟨a, b, hS⟩ := shp_form nm
  have HS := hide hS
  have HC : Hid (shpF nm = namC 10 nm) := hide rfl
  have hE := nm_iff nm
  clear hS
  go_wp2_with fail
  refine (L3.parse_all (bs nm) W T0.out.2.1).mono ?_; rintro e w1 ⟨rfl, b1⟩
  rw [HS.out]
  have B1 := hide b1
  clear b1
  generalize shpF nm = z at *
  go_wp2_with fail
  go_ret
  exact ⟨L5.ret_int HC.out, B0.out.trans ((B1.out.trans ((below_box w1 _).mono B1.out.size)).mono (by omega))⟩
theorem named21 (id n ty pl : Int) (ar tt : List Int) (nm : List UInt8) (ao to : Option Addr) (ca ct : Nat) (w : World) (hl : nm.length <= maxLen) : Calls Tryz.prog 46 #[.agg #[.int .i64 21, .int .i64 id, .int .i64 n, .int .i64 ty, .slice ao ar.length ca, .slice to tt.length ct, .string (bs nm), .int .i64 pl]] w fun e w' => e = .returned (.int .i64 (namC 21 nm)) /\ Below w.heap.size w w' := by
  have hsz : (bs nm).size <= maxLen := by rw [bs_size]; exact hl
  have b0 := below_box w (o8 21 id n ty pl ao to ar.length tt.length ca ct nm)
  have H0 := hide (heap_alloc_new w (o8 21 id n ty pl ao to ar.length tt.length ca ct nm))
  have B0 := hide b0
  have hz0 : (w.alloc (o8 21 id n ty pl ao to ar.length tt.length ca ct nm)).heap.size > w.heap.size := by simp
  clear b0
  go_enter Tryz.func46, Tryz.ntmps46
  go_upto_region 1 with fail
  show Code.wp _ _ _ _ (w.alloc (o8 21 id n ty pl ao to ar.length tt.length ca ct nm))
  generalize w.alloc (o8 21 id n ty pl ao to ar.length tt.length ca ct nm) = W at *
  obtain ⟨c0, c1, c2, c3, c4, c5, c6, c7⟩ := box8 H0.out
  have HC : Hid (∀ r, L2.nameB nm = r -> (if r then (0 : Int) else 4) = namC 21 nm) := hide fun r h => by rw [<- h]; rfl
  have hE := nm_iff nm
  go_wp2_with fail
  refine (L2.name_any (bs nm) W hsz).mono ?_; rintro e w1 ⟨rfl, b1⟩
  rw [bs_data]
  have B1 := hide b1
  clear b1
  cases hb : L2.nameB nm with
  | true =>
    have HC1 := hide (HC.out true hb)
    go_wp2_with fail
    go_ret
    exact ⟨L5.ret_int HC1.out, below_step B0.out B1.out⟩
  | false =>
    have HC1 := hide (HC.out false hb)
    go_wp2_with fail
    go_ret
    exact ⟨L5.ret_int HC1.out, below_step B0.out B1.out⟩
theorem named_else (k : Int) (h10 : k ≠ 10) (h21 : k ≠ 21) (id n ty pl : Int) (ar tt : List Int) (nm : List UInt8) (ao to : Option Addr) (ca ct : Nat) (w : World) : Calls Tryz.prog 46 #[.agg #[.int .i64 k, .int .i64 id, .int .i64 n, .int .i64 ty, .slice ao ar.length ca, .slice to tt.length ct, .string (bs nm), .int .i64 pl]] w fun e w' => e = .returned (.int .i64 (namC k nm)) /\ Below w.heap.size w w' := by
  have HC : Hid ((if nm = [] then (0 : Int) else 4) = namC k nm) := hide (by unfold namC; rw [if_neg h10, if_neg h21])
  have e10 : (k == 10) = false := by simpa using h10
  have e21 : (k == 21) = false := by simpa using h21
  clear h10 h21
  have b0 := below_box w (o8 k id n ty pl ao to ar.length tt.length ca ct nm)
  have H0 := hide (heap_alloc_new w (o8 k id n ty pl ao to ar.length tt.length ca ct nm))
  have B0 := hide b0
  have hz0 : (w.alloc (o8 k id n ty pl ao to ar.length tt.length ca ct nm)).heap.size > w.heap.size := by simp
  clear b0
  go_enter Tryz.func46, Tryz.ntmps46
  go_upto_region 1 with fail
  show Code.wp _ _ _ _ (w.alloc (o8 k id n ty pl ao to ar.length tt.length ca ct nm))
  generalize w.alloc (o8 k id n ty pl ao to ar.length tt.length ca ct nm) = W at *
  obtain ⟨c0, c1, c2, c3, c4, c5, c6, c7⟩ := box8 H0.out
  by_cases hn : nm = []
  . have HC1 := hide ((if_pos hn).symm.trans HC.out)
    have hE : (bs nm).toList.isEmpty = true := by rw [nm_iff]; simpa using hn
    clear hn HC
    go_wp2_with fail
    go_ret
    exact ⟨L5.ret_int HC1.out, B0.out⟩
  . have HC1 := hide ((if_neg hn).symm.trans HC.out)
    have hE : (bs nm).toList.isEmpty = false := by rw [nm_iff]; simpa using hn
    clear hn HC
    go_wp2_with fail
    go_ret
    exact ⟨L5.ret_int HC1.out, B0.out⟩
theorem named_any (k : Int) (id n ty pl : Int) (ar tt : List Int) (nm : List UInt8) (ao to : Option Addr) (ca ct : Nat) (w : World) (ht : Tb w) (hl : nm.length <= maxLen) : Calls Tryz.prog 46 #[.agg #[.int .i64 k, .int .i64 id, .int .i64 n, .int .i64 ty, .slice ao ar.length ca, .slice to tt.length ct, .string (bs nm), .int .i64 pl]] w fun e w' => e = .returned (.int .i64 (namC k nm)) /\ Below w.heap.size w w' := by
  by_cases h10 : k = 10
  . subst h10; exact named10 id n ty pl ar tt nm ao to ca ct w ht
  by_cases h21 : k = 21
  . subst h21; exact named21 id n ty pl ar tt nm ao to ca ct w hl
  exact named_else k h10 h21 id n ty pl ar tt nm ao to ca ct w
def checkC (x : Ins) : Int :=
  if (opOk x.1 && L5.may x.1 x.2.2.2.1) = false then 2
  else if numOk x.1 x.2.1 x.2.2.2.1 = false then 8
  else if cntOk x.1 x.2.2.2.2.1.length x.2.2.2.2.2.1.length = false then 13
  else if rngOk x.1 x.2.2.1 = false then 18
  else if x.2.2.2.2.1.any (byd 1048576) = true then 8
  else if x.2.2.2.2.2.1.any (byd 255) = true then 7
  else namC x.1 x.2.2.2.2.2.2.1
end Go.Proofs.YtahhbckccdigoaaGreatDoor
namespace Go.Proofs.YtahhbckccdigoaaGreatDoor
open Go Go.RowKit
open G (Tok Er Ins Fun)
theorem below_back {w w' : World} {o : Obj} (h : Below (w.drew.alloc o).heap.size (w.drew.alloc o) w') : Below w.heap.size w w' := below_step (below_dn1 w (o := o)) h
theorem check_try (k id n ty pl : Int) (ar tt : List Int) (nm : List UInt8) (ao to : Option Addr) (ca ct : Nat) (w : World) (hs1 : Sl w ao ar) (hs2 : Sl w to tt) (hL : ar.length <= maxLen /\ tt.length <= maxLen) (hn : I64 n) (ht : Tb w) (hl : nm.length <= maxLen) :
    Calls Tryz.prog 16 #[.agg #[.int .i64 k, .int .i64 id, .int .i64 n, .int .i64 ty, .slice ao ar.length ca, .slice to tt.length ct, .string (bs nm), .int .i64 pl]] w fun e w' => e = .returned (.int .i64 (checkC (k, id, n, ty, ar, tt, nm, pl))) /\ Below w.heap.size w w' := by
  have b0 := below_box w (o8 k id n ty pl ao to ar.length tt.length ca ct nm)
  have H0 := hide (heap_alloc_new w (o8 k id n ty pl ao to ar.length tt.length ca ct nm))
  have A0 := hide (hs1.below b0)
  have U0 := hide (hs2.below b0)
  have T0 := hide (ht.below b0)
  have B0 := hide b0
  have hz0 : (w.alloc (o8 k id n ty pl ao to ar.length tt.length ca ct nm)).heap.size > w.heap.size := by simp
  have HL := hide hL
  have HN := hide hn
  have Hl := hide hl
  clear b0 hs1 hs2 ht hL hn hl
  go_enter Tryz.func16, Tryz.ntmps16
  go_upto_region 1 with fail
  show Code.wp _ _ _ _ (w.alloc (o8 k id n ty pl ao to ar.length tt.length ca ct nm))
  generalize w.alloc (o8 k id n ty pl ao to ar.length tt.length ca ct nm) = W at *
  obtain ⟨c0, c1, c2, c3, c4, c5, c6, c7⟩ := box8 H0.out
  go_wp2_with fail
  refine (operation_any k W).mono ?_; rintro e w1 ⟨rfl, rfl⟩
  cases ho : opOk k with
  | false =>
    have HC : Hid ((2 : Int) = checkC (k, id, n, ty, ar, tt, nm, pl)) := hide (by unfold checkC; rw [if_pos (by dsimp only; rw [ho]; rfl)])
    replace ho := hide ho
    go_wp2_with fail
    go_ret
    exact ⟨L5.ret_int HC.out, below_step B0.out (Below.refl _ _)⟩
  | true =>
  replace ho := hide ho
  go_wp2_with fail
  refine (L5.may_any k ty _).mono ?_; rintro e w1 ⟨rfl, rfl⟩
  cases hm : L5.may k ty with
  | false =>
    have HC : Hid ((2 : Int) = checkC (k, id, n, ty, ar, tt, nm, pl)) := hide (by unfold checkC; rw [if_pos (by dsimp only; rw [hm, Bool.and_false])])
    replace hm := hide hm
    go_wp2_with fail
    go_ret
    exact ⟨L5.ret_int HC.out, below_step B0.out (Below.refl _ _)⟩
  | true =>
  have HF1 : Hid (¬ ((opOk k && L5.may k ty) = false)) := hide (by rw [ho.out, hm]; simp)
  replace hm := hide hm
  go_wp2_with fail
  refine (numbered_any k id n ty pl ar tt nm ao to ca ct _ T0.out.2.2).mono ?_; rintro e w2 ⟨rfl, b2⟩
  have B2 := hide b2
  clear b2
  cases hq : numOk k id ty with
  | false =>
    have HC : Hid ((8 : Int) = checkC (k, id, n, ty, ar, tt, nm, pl)) := hide (by unfold checkC; rw [if_neg HF1.out, if_pos hq])
    replace hq := hide hq
    go_wp2_with fail
    go_ret
    exact ⟨L5.ret_int HC.out, below_step B0.out B2.out⟩
  | true =>
  have HF2 : Hid (¬ (numOk k id ty = false)) := hide (by rw [hq]; simp)
  replace hq := hide hq
  clear c0 c1 c2 c3 c4 c5 c6 c7
  obtain ⟨c0, c1, c2, c3, c4, c5, c6, c7⟩ := box8 ((B2.out.block _ (by omega)).trans H0.out)
  go_wp2_with fail
  refine (counted_any k id n ty pl ar tt nm ao to ca ct _ HL.out (T0.out.2.2.below B2.out)).mono ?_; rintro e w3 ⟨rfl, b3⟩
  have B3 := hide (below_step B2.out b3)
  clear b3
  cases hc : cntOk k ar.length tt.length with
  | false =>
    have HC : Hid ((13 : Int) = checkC (k, id, n, ty, ar, tt, nm, pl)) := hide (by unfold checkC; rw [if_neg HF1.out, if_neg HF2.out, if_pos hc])
    replace hc := hide hc
    go_wp2_with fail
    go_ret
    exact ⟨L5.ret_int HC.out, below_step B0.out B3.out⟩
  | true =>
  have HF3 : Hid (¬ (cntOk k ar.length tt.length = false)) := hide (by rw [hc]; simp)
  replace hc := hide hc
  clear c0 c1 c2 c3 c4 c5 c6 c7
  obtain ⟨c0, c1, c2, c3, c4, c5, c6, c7⟩ := box8 ((B3.out.block _ (by omega)).trans H0.out)
  go_wp2_with fail
  refine (ranged_any k id n ty pl ar tt nm ao to ca ct _ HN.out).mono ?_; rintro e w4 ⟨rfl, b4⟩
  have B4 := hide (below_step B3.out b4)
  clear b4
  cases hr : rngOk k n with
  | false =>
    have HC : Hid ((18 : Int) = checkC (k, id, n, ty, ar, tt, nm, pl)) := hide (by unfold checkC; rw [if_neg HF1.out, if_neg HF2.out, if_neg HF3.out, if_pos hr])
    replace hr := hide hr
    go_wp2_with fail
    go_ret
    exact ⟨L5.ret_int HC.out, below_step B0.out B4.out⟩
  | true =>
  have HF4 : Hid (¬ (rngOk k n = false)) := hide (by rw [hr]; simp)
  replace hr := hide hr
  clear c0 c1 c2 c3 c4 c5 c6 c7
  obtain ⟨c0, c1, c2, c3, c4, c5, c6, c7⟩ := box8 ((B4.out.block _ (by omega)).trans H0.out)
  have hcl4 : w.heap.size < w4.heap.size := Nat.lt_of_lt_of_le hz0 B4.out.size
  have AW4 : Hid (Sl (w4.alloc (.cells #[.int .i64 1048576] 3)) ao ar) := hide (A0.out.below (below_step B4.out (below_box w4 _)))
  have GW4 : Hid ((w4.alloc (.cells #[.int .i64 1048576] 3)).cell? ⟨w4.heap.size, 0, none⟩ = some (.int .i64 1048576)) := hide (by simp [go_sem])
  have hgw4 : Hid (w4.heap.size < (w4.alloc (.cells #[.int .i64 1048576] 3)).heap.size) := hide (by simp)
  have hcw4 : Hid (w.heap.size < (w4.alloc (.cells #[.int .i64 1048576] 3)).heap.size) := hide (by simp; omega)
  have d4 : (w4.alloc (.cells #[.int .i64 1048576] 3)).cell? ⟨w.heap.size, 4, none⟩ = some (.slice ao ar.length ca) := ((below_box w4 _).cell (p := ⟨w.heap.size, 4, none⟩) hcl4).trans c4
  go_wp2_with fail
  go_region_held3 (fun w' => w'.cell? ⟨w.heap.size, 4, none⟩ = some (.slice ao ar.length ca))
    (first
      | (go_keep; done)
      | assumption)
    ((first
      | (go_at_call 45; refine (beyond_any 1048576 _).mono ?_; rintro e wx ⟨rfl, rfl⟩)
      | (go_at_call 44; refine (contains_any 1048576 ar ao ca w4.heap.size _ ?_ ?_ ?_ HL.out.1).mono ?_; exact AW4.out; exact hgw4.out; exact GW4.out; rintro e w6 ⟨rfl, bw6⟩; have d4x : w6.cell? ⟨w.heap.size, 4, none⟩ = some (.slice ao ar.length ca) := (bw6.cell (p := ⟨w.heap.size, 4, none⟩) hcw4.out).trans d4; have Bw6 := hide (below_step B4.out (below_back bw6)); clear bw6)))
  all_goals
    cases hx : ar.any (byd 1048576) with
    | true =>
      have HC : Hid ((8 : Int) = checkC (k, id, n, ty, ar, tt, nm, pl)) := hide (by unfold checkC; rw [if_neg HF1.out, if_neg HF2.out, if_neg HF3.out, if_neg HF4.out, if_pos hx])
      replace hx := hide hx
      go_wp2_with fail
      go_ret
      exact ⟨L5.ret_int HC.out, below_step B0.out Bw6.out⟩
    | false =>
      have HF5 : Hid (¬ (ar.any (byd 1048576) = true)) := hide (by rw [hx]; simp)
      replace hx := hide hx
      clear c0 c1 c2 c3 c4 c5 c6 c7
      obtain ⟨c0, c1, c2, c3, c4, c5, c6, c7⟩ := box8 ((Bw6.out.block _ (by omega)).trans H0.out)
      have hcl5 : w.heap.size < w6.heap.size := Nat.lt_of_lt_of_le hz0 Bw6.out.size
      have AW5 : Hid (Sl (w6.alloc (.cells #[.int .i64 255] 3)) to tt) := hide (U0.out.below (below_step Bw6.out (below_box w6 _)))
      have GW5 : Hid ((w6.alloc (.cells #[.int .i64 255] 3)).cell? ⟨w6.heap.size, 0, none⟩ = some (.int .i64 255)) := hide (by simp [go_sem])
      have hgw5 : Hid (w6.heap.size < (w6.alloc (.cells #[.int .i64 255] 3)).heap.size) := hide (by simp)
      have hcw5 : Hid (w.heap.size < (w6.alloc (.cells #[.int .i64 255] 3)).heap.size) := hide (by simp; omega)
      have d5 : (w6.alloc (.cells #[.int .i64 255] 3)).cell? ⟨w.heap.size, 5, none⟩ = some (.slice to tt.length ct) := ((below_box w6 _).cell (p := ⟨w.heap.size, 5, none⟩) hcl5).trans c5
      go_wp2_with fail
      go_region_held3 (fun w' => w'.cell? ⟨w.heap.size, 5, none⟩ = some (.slice to tt.length ct))
        (first
          | (go_keep; done)
          | assumption)
        ((first
          | (go_at_call 45; refine (beyond_any 255 _).mono ?_; rintro e wx ⟨rfl, rfl⟩)
          | (go_at_call 44; refine (contains_any 255 tt to ct w6.heap.size _ ?_ ?_ ?_ HL.out.2).mono ?_; exact AW5.out; exact hgw5.out; exact GW5.out; rintro e w8 ⟨rfl, bw8⟩; have d5x : w8.cell? ⟨w.heap.size, 5, none⟩ = some (.slice to tt.length ct) := (bw8.cell (p := ⟨w.heap.size, 5, none⟩) hcw5.out).trans d5; have Bw8 := hide (below_step Bw6.out (below_back bw8)); clear bw8)))
      all_goals
        cases hy : tt.any (byd 255) with
        | true =>
          have HC : Hid ((7 : Int) = checkC (k, id, n, ty, ar, tt, nm, pl)) := hide (by unfold checkC; rw [if_neg HF1.out, if_neg HF2.out, if_neg HF3.out, if_neg HF4.out, if_neg HF5.out, if_pos hy])
          replace hy := hide hy
          go_wp2_with fail
          go_ret
          exact ⟨L5.ret_int HC.out, below_step B0.out Bw8.out⟩
        | false =>
          have HC : Hid (namC k nm = checkC (k, id, n, ty, ar, tt, nm, pl)) := hide (by unfold checkC; rw [if_neg HF1.out, if_neg HF2.out, if_neg HF3.out, if_neg HF4.out, if_neg HF5.out, if_neg (by rw [hy]; simp)])
          replace hy := hide hy
          clear c0 c1 c2 c3 c4 c5 c6 c7
          obtain ⟨c0, c1, c2, c3, c4, c5, c6, c7⟩ := box8 ((Bw8.out.block _ (by omega)).trans H0.out)
          go_wp2_with fail
          refine (named_any k id n ty pl ar tt nm ao to ca ct _ (T0.out.below Bw8.out) Hl.out).mono ?_; rintro e w9 ⟨rfl, b9⟩
          generalize namC k nm = z at *
          go_wp2_with fail
          go_ret
          exact ⟨L5.ret_int HC.out, below_step B0.out (below_step Bw8.out b9)⟩
theorem check_any (x : Ins) (v : Value) (w : World) (h : InsV w x v) (hn : I64 x.2.2.1) (ht : Tb w) (hl : x.2.2.2.2.2.2.1.length <= maxLen) : Calls Tryz.prog 16 #[v] w fun e w' => e = .returned (.int .i64 (checkC x)) /\ Below w.heap.size w w' := by
  obtain ⟨k, id, n, ty, ar, tt, nm, pl⟩ := x
  obtain ⟨ao, to, ca, ct, rfl, h1, h2, h3, h4, h5, h6⟩ := h
  exact check_try k id n ty pl ar tt nm ao to ca ct w h1 h2 ⟨Nat.le_trans h3 h4, Nat.le_trans h5 h6⟩ hn ht hl
end Go.Proofs.YtahhbckccdigoaaGreatDoor
namespace Go.Proofs.YtahhbckccdigoaaGreatDoor
open Go Go.RowKit
open G (Tok Er Ins Fun)
def pasB (t : Int) : Bool := decide (t = 1) || decide (t = 2)
theorem passed_any (t : Int) (w : World) : Calls Tryz.prog 77 #[.int .i64 t] w fun e w' => e = .returned (.bool (pasB t)) /\ w' = w := by
  by_cases h1 : t = 1
  . have HB : Hid (true = pasB t) := hide (by simp [pasB, h1])
    have e1 : (t == 1) = true := by simpa using h1
    clear h1
    go_enter Tryz.func77, Tryz.ntmps77
    go_wp2_with fail
    go_ret
    exact ⟨L5.ret_bool HB.out, rfl⟩
  . have e1 : (t == 1) = false := by simpa using h1
    by_cases h2 : t = 2
    . have HB : Hid (true = pasB t) := hide (by simp [pasB, h2])
      have e2 : (t == 2) = true := by simpa using h2
      clear h1 h2
      go_enter Tryz.func77, Tryz.ntmps77
      go_wp2_with fail
      go_ret
      exact ⟨L5.ret_bool HB.out, rfl⟩
    . have HB : Hid (false = pasB t) := hide (by simp [pasB, h1, h2])
      have e2 : (t == 2) = false := by simpa using h2
      clear h1 h2
      go_enter Tryz.func77, Tryz.ntmps77
      go_wp2_with fail
      go_ret
      exact ⟨L5.ret_bool HB.out, rfl⟩
theorem head1_any (t : Int) (w : World) : Calls Tryz.prog 78 #[.int .i64 t] w fun e w' => e = .returned (.bool (!pasB t)) /\ w' = w := by
  go_enter Tryz.func78, Tryz.ntmps78
  go_wp2_with fail
  refine (passed_any t w).mono ?_; rintro e w1 ⟨rfl, rfl⟩
  cases hb : pasB t with
  | true =>
    replace hb := hide hb
    go_wp2_with fail
    go_ret
    exact ⟨L5.ret_bool (by rw [hb.out]; rfl), rfl⟩
  | false =>
    replace hb := hide hb
    go_wp2_with fail
    go_ret
    exact ⟨L5.ret_bool (by rw [hb.out]; rfl), rfl⟩
def firstP : List Int -> Int -> Int
  | [], _ => -1
  | t :: r, k => if (!pasB t) then k else firstP r (k + 1)
theorem firstP_drop (xs : List Int) (k : Nat) (t : Int) (h : xs[k]? = some t) : firstP (xs.drop k) k = if (!pasB t) then (k : Int) else firstP (xs.drop (k + 1)) ((k + 1 : Nat) : Int) := by
  have : xs.drop k = t :: xs.drop (k + 1) := by
    obtain ⟨h1, h2⟩ := List.getElem?_eq_some_iff.1 h
    rw [List.drop_eq_getElem_cons h1, h2]
  rw [this]; rfl
theorem firstP_any (l : List Int) : ∀ k : Int, 0 <= k -> (l.any (fun t => !pasB t) = true -> 0 <= firstP l k) /\ (l.any (fun t => !pasB t) = false -> firstP l k = -1) := by
  induction l with
  | nil => intro k _; simp [firstP]
  | cons t r ih =>
    intro k hk
    rw [firstP, List.any_cons]
    cases hb : pasB t with
    | false => simp; exact hk
    | true => simpa using ih (k + 1) (by omega)
theorem indexP_any (xs : List Int) (ao : Option Addr) (c : Nat) (w : World) (hs : Sl w ao xs) (hm : xs.length <= maxLen) :
    Calls Tryz.prog 71 #[.slice ao xs.length c, .func (Fn.func 78) #[] #[]] w fun e w' => e = .returned (.int .i64 (firstP xs 0)) /\ Below w.heap.size w w' := by
  have X := hide hs
  unfold maxLen at hm
  clear hs
  go_enter Tryz.func71, Tryz.ntmps71
  go_wp2_with fail
  go_loopw [8] (fun i wr => ∃ k : Nat, i = .int .i64 k /\ k <= xs.length /\ Below w.heap.size w wr /\ Hid (firstP xs 0 = firstP (xs.drop k) k)) (fun i _ => xs.length - (intOf i).toNat)
  case atStart => exact ⟨0, rfl, Nat.zero_le _, Below.refl _ _, rfl⟩
  case round =>
    obtain ⟨k, rfl, hk, HB, HF⟩ := hrel
    have HB := hide HB
    by_cases hlt : k < xs.length
    . obtain ⟨t, ht⟩ : ∃ t, xs[k]? = some t := ⟨xs[k], List.getElem?_eq_getElem hlt⟩
      have HS := hide (HF.out.trans (firstP_drop xs k t ht))
      rcases X.out with he | ⟨b, o, rfl, hb, hc⟩
      . subst he; simp at hlt
      have hcell : wr.cell? ⟨b, o + k, none⟩ = some (.int .i64 t) := (HB.out.cell (p := ⟨b, o + k, none⟩) hb).trans (hc k t ht)
      have hlt' : (k : Int) < xs.length := by omega
      clear hc ht
      go_wp2_with fail
      refine (head1_any t _).mono ?_; rintro e w1 ⟨rfl, rfl⟩
      cases hbt : pasB t with
      | false =>
        have HE := hide (HS.out.trans (if_pos (by simp [hbt])))
        replace hbt := hide hbt
        go_wp2_with fail
        go_ret
        exact ⟨by rw [HE.out]; rfl, HB.out⟩
      | true =>
        have HE := hide (HS.out.trans (if_neg (by simp [hbt])))
        replace hbt := hide hbt
        go_wp2_with fail
        go_roundw
        case rel => exact ⟨k + 1, by go_num, by omega, HB.out, HE.out⟩
        case measure => simp [intOf]; omega
    . have hk2 : k = xs.length := by omega
      subst hk2
      have HE := hide (HF.out.trans (by rw [List.drop_length]; rfl : _ = (-1 : Int)))
      go_wp2_with fail
      go_ret
      exact ⟨by rw [HE.out]; rfl, HB.out⟩
def parB (ps : List Int) : Bool := ps.any fun t => !pasB t
theorem containsP_any (xs : List Int) (ao : Option Addr) (c : Nat) (w : World) (hs : Sl w ao xs) (hm : xs.length <= maxLen) :
    Calls Tryz.prog 44 #[.slice ao xs.length c, .func (Fn.func 78) #[] #[]] w fun e w' => e = .returned (.bool (parB xs)) /\ Below w.heap.size w w' := by
  obtain ⟨f1, f2⟩ := firstP_any xs 0 (Int.le_refl 0)
  have X := hide hs
  have F1 := hide f1
  have F2 := hide f2
  clear hs f1 f2
  go_enter Tryz.func44, Tryz.ntmps44
  go_wp2_with fail
  refine (indexP_any xs ao c _ X.out hm).mono ?_; rintro e w1 ⟨rfl, b1⟩
  cases hb : parB xs with
  | true =>
    have h1 := F1.out hb
    replace hb := hide hb
    generalize firstP xs 0 = r at *
    clear F1 F2
    go_wp2_with fail
    go_ret
    exact ⟨L5.ret_bool hb.out.symm, b1⟩
  | false =>
    have h1 := F2.out hb
    rw [h1]
    replace hb := hide hb
    clear F1 F2 h1
    go_wp2_with fail
    go_ret
    exact ⟨L5.ret_bool hb.out.symm, b1⟩
def headC (f : Fun) : Int :=
  if 8 < f.2.1.length \/ 256 < f.2.2.2.1.length then 6
  else if L2.nameB f.1 = false then 4
  else if (f.2.2.1 < 0 \/ 2 < f.2.2.1) \/ parB f.2.1 = true then 9
  else 0
theorem head_try (nm : List UInt8) (ps : List Int) (rt pl : Int) (bl : List (List Ins)) (ao bo : Option Addr) (c cb : Nat) (w : World) (hs : Sl w ao ps) (hL : ps.length <= maxLen /\ bl.length <= maxLen) (hl : nm.length <= maxLen) :
    Calls Tryz.prog 52 #[.agg #[.string (bs nm), .slice ao ps.length c, .int .i64 rt, .slice bo bl.length cb, .int .i64 pl]] w fun e w' => e = .returned (.int .i64 (headC (nm, ps, rt, bl, pl))) /\ Below w.heap.size w w' := by
  have b0 := below_box w (o5 nm rt pl ao bo ps.length bl.length c cb)
  have H0 := hide (heap_alloc_new w (o5 nm rt pl ao bo ps.length bl.length c cb))
  have A0 := hide (hs.below b0)
  have B0 := hide b0
  have hz0 : (w.alloc (o5 nm rt pl ao bo ps.length bl.length c cb)).heap.size > w.heap.size := by simp
  have HSZ : Hid ((bs nm).size <= maxLen) := hide (by rw [bs_size]; exact hl)
  obtain ⟨hLa, hLt⟩ := hL
  have HL := hide hLa
  unfold maxLen at hLa hLt
  clear b0 hs hl
  go_enter Tryz.func52, Tryz.ntmps52
  go_upto_region 1 with fail
  show Code.wp _ _ _ _ (w.alloc (o5 nm rt pl ao bo ps.length bl.length c cb))
  generalize w.alloc (o5 nm rt pl ao bo ps.length bl.length c cb) = W at *
  obtain ⟨c0, c1, c2, c3, c4⟩ := box5 H0.out
  by_cases h8 : 8 < ps.length
  . have HC : Hid ((6 : Int) = headC (nm, ps, rt, bl, pl)) := hide (by unfold headC; rw [if_pos (.inl h8)])
    have h8' : (8 : Int) < ps.length := by omega
    go_wp2_with fail
    go_ret
    exact ⟨L5.ret_int HC.out, B0.out⟩
  have h8' : ¬ (8 : Int) < ps.length := by omega
  by_cases h256 : 256 < bl.length
  . have HC : Hid ((6 : Int) = headC (nm, ps, rt, bl, pl)) := hide (by unfold headC; rw [if_pos (.inr h256)])
    have h256' : (256 : Int) < bl.length := by omega
    go_wp2_with fail
    go_ret
    exact ⟨L5.ret_int HC.out, B0.out⟩
  have h256' : ¬ (256 : Int) < bl.length := by omega
  have HF1 : Hid (¬ (8 < ps.length \/ 256 < bl.length)) := hide (by omega)
  go_wp2_with fail
  refine (L2.name_any (bs nm) W HSZ.out).mono ?_; rintro e w1 ⟨rfl, b1⟩
  rw [bs_data]
  have B1 := hide b1
  clear b1
  cases hb : L2.nameB nm with
  | false =>
    have HC : Hid ((4 : Int) = headC (nm, ps, rt, bl, pl)) := hide (by unfold headC; rw [if_neg HF1.out, if_pos hb])
    replace hb := hide hb
    go_wp2_with fail
    go_ret
    exact ⟨L5.ret_int HC.out, below_step B0.out B1.out⟩
  | true =>
  have HF2 : Hid (¬ (L2.nameB nm = false)) := hide (by rw [hb]; simp)
  replace hb := hide hb
  clear c0 c1 c2 c3 c4
  obtain ⟨c0, c1, c2, c3, c4⟩ := box5 ((B1.out.block _ (by omega)).trans H0.out)
  have HRT : Hid ((rt = 0 \/ (rt ≠ 0 /\ pasB rt = true)) /\ ¬ (rt < 0 \/ 2 < rt) \/ (rt ≠ 0 /\ pasB rt = false) /\ (rt < 0 \/ 2 < rt)) := hide (by
    by_cases h0 : rt = 0
    . exact .inl ⟨.inl h0, by omega⟩
    . by_cases h1 : rt = 1 \/ rt = 2
      . refine .inl ⟨.inr ⟨h0, ?_⟩, by omega⟩
        rcases h1 with h1 | h1 <;> simp [pasB, h1]
      . refine .inr ⟨⟨h0, ?_⟩, by omega⟩
        have h2 : rt ≠ 1 := fun h => h1 (.inl h)
        have h3 : rt ≠ 2 := fun h => h1 (.inr h)
        simp [pasB, h2, h3])
  rcases HRT.out with ⟨hr, hr2⟩ | ⟨⟨hr, hr1⟩, hr2⟩
  rotate_left
  . have HC : Hid ((9 : Int) = headC (nm, ps, rt, bl, pl)) := hide (by unfold headC; rw [if_neg HF1.out, if_neg HF2.out, if_pos (.inl hr2)])
    have hr3 : (rt != 0) = true := by simpa using hr
    replace hr1 := hide hr1
    clear HRT hr hr2
    go_wp2_with fail
    refine (passed_any rt _).mono ?_; rintro e w2 ⟨rfl, hw2⟩
    rw [hw2, hr1.out]
    clear hw2
    go_wp2_with fail
    go_ret
    exact ⟨L5.ret_int HC.out, below_step B0.out B1.out⟩
  have HRE : Hid (∀ r, parB ps = r -> (if r then (9 : Int) else 0) = headC (nm, ps, rt, bl, pl)) := hide fun r h => by
    unfold headC
    rw [if_neg HF1.out, if_neg HF2.out]
    cases r with
    | true => exact (if_pos (Or.inr h)).symm
    | false => exact (if_neg (fun h2 => by
        rcases h2 with h2 | h2
        . exact hr2 h2
        . rw [show parB ps = false from h] at h2; cases h2)).symm
  replace hr2 := hide hr2
  clear HRT
  rcases hr with hr | ⟨hr, hr1⟩
  . have hr3 : (rt != 0) = false := by simpa using hr
    replace hr := hide hr
    go_wp2_with fail
    refine (containsP_any ps ao c _ (A0.out.below B1.out) HL.out).mono ?_; rintro e w3 ⟨rfl, b3⟩
    have B3 := hide (below_step B1.out b3)
    clear b3
    cases hp : parB ps with
    | true =>
      have HC := hide (HRE.out true hp)
      replace hp := hide hp
      go_wp2_with fail
      go_ret
      exact ⟨L5.ret_int HC.out, below_step B0.out B3.out⟩
    | false =>
      have HC := hide (HRE.out false hp)
      replace hp := hide hp
      go_wp2_with fail
      go_ret
      exact ⟨L5.ret_int HC.out, below_step B0.out B3.out⟩
  . have hr3 : (rt != 0) = true := by simpa using hr
    replace hr1 := hide hr1
    clear hr
    go_wp2_with fail
    refine (passed_any rt _).mono ?_; rintro e w2 ⟨rfl, hw2⟩
    rw [hw2, hr1.out]
    clear hw2
    go_wp2_with fail
    refine (containsP_any ps ao c _ (A0.out.below B1.out) HL.out).mono ?_; rintro e w3 ⟨rfl, b3⟩
    have B3 := hide (below_step B1.out b3)
    clear b3
    cases hp : parB ps with
    | true =>
      have HC := hide (HRE.out true hp)
      replace hp := hide hp
      go_wp2_with fail
      go_ret
      exact ⟨L5.ret_int HC.out, below_step B0.out B3.out⟩
    | false =>
      have HC := hide (HRE.out false hp)
      replace hp := hide hp
      go_wp2_with fail
      go_ret
      exact ⟨L5.ret_int HC.out, below_step B0.out B3.out⟩
theorem pas_range (p : Int) : (!pasB p) = true ↔ (p < 1 \/ 2 < p) := by
  simp [pasB]; omega
theorem parB_take (l : List Int) (j : Nat) (y : Int) (h : l[j]? = some y) : parB (l.take (j + 1)) = (parB (l.take j) || !pasB y) := by
  unfold parB; rw [List.take_add_one, h]; simp
theorem parB_hit (l : List Int) (j : Nat) (y : Int) (h : l[j]? = some y) (hb : (!pasB y) = true) : parB l = true := by
  unfold parB; rw [List.any_eq_true]; exact ⟨y, List.mem_of_getElem? h, hb⟩
def rheadC (i : Nat) (f : Fun) : Int := if 32 <= i then 6 else headC f
theorem rhead_try (i : Nat) (nm : List UInt8) (ps : List Int) (rt pl : Int) (bl : List (List Ins)) (ao bo : Option Addr) (c cb : Nat) (w : World) (hs : Sl w ao ps) (hL : ps.length <= maxLen /\ bl.length <= maxLen) (hl : nm.length <= maxLen) (hi : i <= maxLen) :
    Calls Tryz.prog 22 #[.agg #[.string (bs nm), .slice ao ps.length c, .int .i64 rt, .slice bo bl.length cb, .int .i64 pl], .int .i64 i] w fun e w' => e = .returned (.int .i64 (rheadC i (nm, ps, rt, bl, pl))) /\ Below w.heap.size w w' := by
  unfold maxLen at hi
  have b0 := below_box w (o5 nm rt pl ao bo ps.length bl.length c cb)
  have H0 := hide (heap_alloc_new w (o5 nm rt pl ao bo ps.length bl.length c cb))
  have A0 := hide (hs.below b0)
  have B0 := hide b0
  have hz0 : (w.alloc (o5 nm rt pl ao bo ps.length bl.length c cb)).heap.size > w.heap.size := by simp
  have HSZ : Hid ((bs nm).size <= maxLen) := hide (by rw [bs_size]; exact hl)
  obtain ⟨hLa, hLt⟩ := hL
  have HL := hide hLa
  unfold maxLen at hLa hLt
  clear b0 hs hl
  go_enter Tryz.func22, Tryz.ntmps22
  go_upto_region 1 with fail
  show Code.wp _ _ _ _ (w.alloc (o5 nm rt pl ao bo ps.length bl.length c cb))
  generalize w.alloc (o5 nm rt pl ao bo ps.length bl.length c cb) = W at *
  obtain ⟨c0, c1, c2, c3, c4⟩ := box5 H0.out
  by_cases h32 : 32 <= i
  . have HC : Hid ((6 : Int) = rheadC i (nm, ps, rt, bl, pl)) := hide (if_pos h32).symm
    have h32' : (32 : Int) <= i := by omega
    go_wp2_with fail
    go_ret
    exact ⟨L5.ret_int HC.out, B0.out⟩
  have HG : Hid (headC (nm, ps, rt, bl, pl) = rheadC i (nm, ps, rt, bl, pl)) := hide (if_neg h32).symm
  have h32' : ¬ (32 : Int) <= i := by omega
  by_cases h8 : 8 < ps.length
  . have HC : Hid ((6 : Int) = rheadC i (nm, ps, rt, bl, pl)) := hide (by rw [<- HG.out]; unfold headC; rw [if_pos (.inl h8)])
    have h8' : (8 : Int) < ps.length := by omega
    go_wp2_with fail
    go_ret
    exact ⟨L5.ret_int HC.out, B0.out⟩
  have h8' : ¬ (8 : Int) < ps.length := by omega
  by_cases h256 : 256 < bl.length
  . have HC : Hid ((6 : Int) = rheadC i (nm, ps, rt, bl, pl)) := hide (by rw [<- HG.out]; unfold headC; rw [if_pos (.inr h256)])
    have h256' : (256 : Int) < bl.length := by omega
    go_wp2_with fail
    go_ret
    exact ⟨L5.ret_int HC.out, B0.out⟩
  have h256' : ¬ (256 : Int) < bl.length := by omega
  have HF1 : Hid (¬ (8 < ps.length \/ 256 < bl.length)) := hide (by omega)
  go_wp2_with fail
  refine (L2.rname_any (bs nm) W HSZ.out).mono ?_; rintro e w1 ⟨rfl, hw1⟩
  rw [hw1, bs_data]
  clear hw1
  cases hb : L2.nameB nm with
  | false =>
    have HC : Hid ((4 : Int) = rheadC i (nm, ps, rt, bl, pl)) := hide (by rw [<- HG.out]; unfold headC; rw [if_neg HF1.out, if_pos hb])
    replace hb := hide hb
    go_wp2_with fail
    go_ret
    exact ⟨L5.ret_int HC.out, B0.out⟩
  | true =>
  have HF2 : Hid (¬ (L2.nameB nm = false)) := hide (by rw [hb]; simp)
  replace hb := hide hb
  by_cases hr0 : rt < 0
  . have HC : Hid ((9 : Int) = rheadC i (nm, ps, rt, bl, pl)) := hide (by rw [<- HG.out]; unfold headC; rw [if_neg HF1.out, if_neg HF2.out, if_pos (.inl (.inl hr0))])
    go_wp2_with fail
    go_ret
    exact ⟨L5.ret_int HC.out, B0.out⟩
  by_cases hr2 : 2 < rt
  . have HC : Hid ((9 : Int) = rheadC i (nm, ps, rt, bl, pl)) := hide (by rw [<- HG.out]; unfold headC; rw [if_neg HF1.out, if_neg HF2.out, if_pos (.inl (.inr hr2))])
    go_wp2_with fail
    go_ret
    exact ⟨L5.ret_int HC.out, B0.out⟩
  have HF3 : Hid (¬ (rt < 0 \/ 2 < rt)) := hide (by omega)
  go_wp2_with fail
  clear c0 c1 c2 c3 c4
  go_loopw [5] (fun i wr => ∃ j : Nat, j <= ps.length /\ i = .int .i64 j /\ Hid (parB (ps.take j) = false) /\ Hid (Below W.heap.size W wr)) (fun i _ => ps.length - (intOf i).toNat)
  case atStart => exact ⟨0, Nat.zero_le _, rfl, hide rfl, hide (Below.refl _ _)⟩
  case round =>
    obtain ⟨j, hj, rfl, HA, HW⟩ := hrel
    obtain ⟨c0, c1, c2, c3, c4⟩ := box5 ((HW.out.block _ (by omega)).trans H0.out)
    by_cases hlt : j < ps.length
    . obtain ⟨y, hy⟩ : ∃ y, ps[j]? = some y := ⟨_, List.getElem?_eq_getElem hlt⟩
      rcases A0.out with he | ⟨g, o, rfl, hg, hcc⟩
      . subst he; simp at hlt
      have hcell := (HW.out.cell (p := ⟨g, o + j, none⟩) hg).trans (hcc j y hy)
      have hlt' : (j : Int) < ps.length := by omega
      have HT := hide (parB_take ps j y hy)
      have HH := hide (parB_hit ps j y hy)
      clear hcc hy
      by_cases hy0 : y < 1
      . have HC : Hid ((9 : Int) = rheadC i (nm, ps, rt, bl, pl)) := hide (by rw [<- HG.out]; unfold headC; rw [if_neg HF1.out, if_neg HF2.out, if_pos (.inr (HH.out ((pas_range y).2 (.inl hy0))))])
        clear HH HT
        go_wp2_with fail
        go_ret
        exact ⟨L5.ret_int HC.out, below_step B0.out HW.out⟩
      . by_cases hy1 : 2 < y
        . have HC : Hid ((9 : Int) = rheadC i (nm, ps, rt, bl, pl)) := hide (by rw [<- HG.out]; unfold headC; rw [if_neg HF1.out, if_neg HF2.out, if_pos (.inr (HH.out ((pas_range y).2 (.inr hy1))))])
          clear HH HT
          go_wp2_with fail
          go_ret
          exact ⟨L5.ret_int HC.out, below_step B0.out HW.out⟩
        . have HT1 : Hid (parB (ps.take (j + 1)) = false) := hide (by
            rw [HT.out, HA.out, Bool.false_or]
            cases hq : (!pasB y) with
            | false => rfl
            | true => have := (pas_range y).1 hq; omega)
          clear HH HT
          go_wp2_with fail
          go_roundw
          case rel => exact ⟨j + 1, by omega, by go_num, HT1, HW⟩
          case measure => simp [intOf]; omega
    . obtain rfl : j = ps.length := by omega
      have HC : Hid ((0 : Int) = rheadC i (nm, ps, rt, bl, pl)) := hide (by
        rw [<- HG.out]
        unfold headC
        rw [if_neg HF1.out, if_neg HF2.out, if_neg]
        intro h
        rcases h with h | h
        . exact HF3.out h
        . have h2 := HA.out
          rw [List.take_length] at h2
          rw [show parB ps = false from h2] at h
          cases h)
      go_wp2_with fail
      go_ret
      exact ⟨L5.ret_int HC.out, below_step B0.out HW.out⟩
end Go.Proofs.YtahhbckccdigoaaGreatDoor
namespace Go.Proofs.YtahhbckccdigoaaGreatDoor
open Go Go.RowKit
open G (Tok Er Ins Fun)
def runI : Nat -> List Ins -> Nat × Int
  | m, [] => (m, 0)
  | m, x :: r => if m = 4096 then (m, 6) else if checkC x ≠ 0 then (m + 1, checkC x) else runI (m + 1) r
def runB : Nat -> List (List Ins) -> Nat × Int
  | m, [] => (m, 0)
  | m, b :: r => if (runI m b).2 ≠ 0 then runI m b else runB (runI m b).1 r
theorem wdrop_at {α : Type} {l : List α} {j : Nat} {x : α} (h : l[j]? = some x) : l.drop j = x :: l.drop (j + 1) := by
  obtain ⟨h1, h2⟩ := List.getElem?_eq_some_iff.1 h
  rw [List.drop_eq_getElem_cons h1, h2]
def midB (m : Nat) (b : List Ins) (r : List (List Ins)) : Nat × Int := if (runI m b).2 ≠ 0 then runI m b else runB (runI m b).1 r
theorem midB_nil (m : Nat) (r : List (List Ins)) : midB m [] r = runB m r := by unfold midB; simp [runI]
theorem midB_full (x : Ins) (b : List Ins) (r : List (List Ins)) : midB 4096 (x :: b) r = (4096, 6) := by unfold midB; simp [runI]
theorem midB_bad {m : Nat} {x : Ins} (b : List Ins) (r : List (List Ins)) (hm : m ≠ 4096) (hx : checkC x ≠ 0) : midB m (x :: b) r = (m + 1, checkC x) := by
  have e : runI m (x :: b) = (m + 1, checkC x) := by rw [runI, if_neg hm, if_pos hx]
  unfold midB; rw [e, if_pos hx]
theorem midB_good {m : Nat} {x : Ins} (b : List Ins) (r : List (List Ins)) (hm : m ≠ 4096) (hx : checkC x = 0) : midB m (x :: b) r = midB (m + 1) b r := by
  have e : runI m (x :: b) = runI (m + 1) b := by rw [runI, if_neg hm, if_neg (by simp [hx])]
  unfold midB; rw [e]
def OkI (x : Ins) : Prop := I64 x.2.2.1 /\ x.2.2.2.2.2.2.1.length <= maxLen
def OkF (f : Fun) : Prop := f.1.length <= maxLen /\ ∀ b ∈ f.2.2.2.1, ∀ x ∈ b, OkI x
theorem body_try (m0 : Nat) (nm : List UInt8) (ps : List Int) (rt pl : Int) (bl : List (List Ins)) (ao bo : Option Addr) (c cb : Nat) (w : World) (hb : BlksR w bl (.slice bo bl.length cb)) (ht : Tb w) (hO : OkF (nm, ps, rt, bl, pl)) (hm0 : m0 <= 4096) :
    Calls Tryz.prog 53 #[.agg #[.string (bs nm), .slice ao ps.length c, .int .i64 rt, .slice bo bl.length cb, .int .i64 pl], .int .i64 m0] w fun e w' => e = .returned (.tuple #[.int .i64 ((runB m0 bl).1 : Nat), .int .i64 (runB m0 bl).2]) /\ Below w.heap.size w w' := by
  obtain ⟨_, o2⟩ := hO
  dsimp only at o2
  have b0 := below_box w (o5 nm rt pl ao bo ps.length bl.length c cb)
  have H0 := hide (heap_alloc_new w (o5 nm rt pl ao bo ps.length bl.length c cb))
  have T0 := hide (ht.below b0)
  have HBl := hide (hb.below b0)
  have hz0 : (w.alloc (o5 nm rt pl ao bo ps.length bl.length c cb)).heap.size > w.heap.size := by simp
  have B0 := hide b0
  have O2 := hide o2
  have hcb : bl.length <= cb /\ cb <= maxLen := by
    obtain ⟨ao', c', e, h1, h2, _⟩ := hb
    injection e with e1 e2 e3
    subst e3
    exact ⟨h1, h2⟩
  unfold maxLen at hcb
  clear b0 hb ht o2
  go_enter Tryz.func53, Tryz.ntmps53
  go_upto_region 1 with fail
  show Code.wp _ _ _ _ (w.alloc (o5 nm rt pl ao bo ps.length bl.length c cb))
  generalize w.alloc (o5 nm rt pl ao bo ps.length bl.length c cb) = W at *
  obtain ⟨c0, c1, c2, c3, c4⟩ := box5 H0.out
  go_wp2_with fail
  go_loopw [1, 14] (fun mm i wr => ∃ (m K : Nat), m <= 4096 /\ mm = .int .i64 m /\ K <= bl.length /\ i = .int .i64 K /\ Hid (runB m0 bl = runB m (bl.drop K)) /\ Hid (Below W.heap.size W wr)) (fun _ i _ => bl.length - (intOf i).toNat)
  case atStart => exact ⟨m0, 0, hm0, rfl, Nat.zero_le _, rfl, hide rfl, hide (Below.refl _ _)⟩
  case round =>
    obtain ⟨m, K, hm, rfl, hK, rfl, HR, HW⟩ := hrel
    by_cases hkt : K < bl.length
    . obtain ⟨b, hbK⟩ : ∃ b, bl[K]? = some b := ⟨bl[K], List.getElem?_eq_some_iff.2 ⟨hkt, rfl⟩⟩
      obtain ⟨ao', c', eq', hh1, hh2, hh3⟩ := HBl.out
      injection eq' with e1 e2 e3
      subst e1 e3
      rcases hh3 with hh3 | ⟨gb, ob, rfl, hgb, hbl⟩
      . subst hh3; simp at hkt
      obtain ⟨vk, kd, kk⟩ := hbl K b hbK
      have kd' := (HW.out.cell (p := ⟨gb, ob + K, none⟩) hgb).trans kd
      obtain ⟨aok, capk, rfl, lk1, lk2, kins⟩ := kk
      have HOb := hide (O2.out b (List.mem_of_getElem? hbK))
      have KI := hide kins
      have hkI : (K : Int) < bl.length := by omega
      have HR2 : Hid (runB m0 bl = midB m (b.drop 0) (bl.drop (K + 1))) := hide (by rw [HR.out, wdrop_at hbK]; rfl)
      unfold maxLen at lk2
      clear kins kd hbl hbK hh1 hh2 HR
      go_wp2_with fail
      go_loopw [1, 20] (fun mm i wr => ∃ (m J : Nat), m <= 4096 /\ mm = .int .i64 m /\ J <= b.length /\ i = .int .i64 J /\ Hid (runB m0 bl = midB m (b.drop J) (bl.drop (K + 1))) /\ Hid (Below W.heap.size W wr)) (fun _ i _ => b.length - (intOf i).toNat)
      case atStart => exact ⟨m, 0, hm, rfl, Nat.zero_le _, rfl, HR2, HW⟩
      case round =>
        obtain ⟨m2, J, hm2, rfl, hJ, rfl, HRJ, HWJ⟩ := hrel
        by_cases hjt : J < b.length
        . obtain ⟨y, hyJ⟩ : ∃ y, b[J]? = some y := ⟨b[J], List.getElem?_eq_some_iff.2 ⟨hjt, rfl⟩⟩
          rcases KI.out with hh | ⟨gi, oi, rfl, hin⟩
          . subst hh; simp at hjt
          obtain ⟨aoy, toy, cay, cty, hv, q0, q1, q2, q3, q4, q5, q6, q7⟩ := ((hin J y hyJ).below HWJ.out).val
          have HV := hide hv
          have HOy := hide (HOb.out y (List.mem_of_getElem? hyJ))
          have hjI : (J : Int) < b.length := by omega
          have TJ := hide (T0.out.below HWJ.out)
          have HR3 := hide (HRJ.out.trans (by rw [wdrop_at hyJ]))
          obtain ⟨op, id, nn, ty, ar, tt, na, pp⟩ := y
          dsimp only at HV q0 q1 q2 q3 q4 q5 q6 q7
          clear hin hyJ hv HRJ
          by_cases h4 : m2 = 4096
          . subst h4
            have HE := hide (HR3.out.trans (midB_full _ _ _))
            have h4' : (((4096 : Nat) : Int) == 4096) = true := rfl
            go_wp2_with fail
            go_ret2
            exact ⟨by rw [HE.out]; rfl, below_step B0.out (HWJ.out.trans ((below_box _ _).mono HWJ.out.size))⟩
          . have h4' : ((m2 : Int) == 4096) = false := beq_eq_false_iff_ne.2 (by omega)
            have B7 := hide (below_box wr (.cells #[.int .i64 op, .int .i64 id, .int .i64 nn, .int .i64 ty, .slice aoy ar.length cay, .slice toy tt.length cty, .string (bs na), .int .i64 pp] 39))
            go_wp2_with fail
            refine (check_any (op, id, nn, ty, ar, tt, na, pp) _ _ (HV.out.below B7.out) HOy.out.1 (TJ.out.below B7.out) HOy.out.2).mono ?_; rintro e w7 ⟨rfl, b7⟩
            have HW7 := hide (below_step HWJ.out (below_step B7.out b7))
            clear q0 q1 q2 q3 q4 q5 q6 q7 b7
            by_cases hcx : checkC (op, id, nn, ty, ar, tt, na, pp) = 0
            . have HE := hide (HR3.out.trans (midB_good _ _ h4 hcx))
              rw [hcx]
              go_wp2_with fail
              go_roundw
              case rel => exact ⟨m2 + 1, J + 1, by omega, by go_num, by omega, by go_num, HE, HW7⟩
              case measure => simp [intOf]; omega
            . have HE := hide (HR3.out.trans (midB_bad _ _ h4 hcx))
              have hcx' : (checkC (op, id, nn, ty, ar, tt, na, pp) != 0) = true := by simpa using hcx
              generalize checkC (op, id, nn, ty, ar, tt, na, pp) = z at *
              go_wp2_with fail
              go_ret2
              exact ⟨by rw [HE.out]; rfl, below_step B0.out HW7.out⟩
        . obtain rfl : J = b.length := by omega
          have HE := hide (HRJ.out.trans (by rw [List.drop_length, midB_nil] : _ = runB m2 (bl.drop (K + 1))))
          go_wp2_with fail
          go_roundw
          case rel => exact ⟨m2, K + 1, hm2, rfl, by omega, by go_num, HE, HWJ⟩
          case measure => simp [intOf]; omega
    . obtain rfl : K = bl.length := by omega
      have HE : Hid (runB m0 bl = (m, 0)) := hide (HR.out.trans (by rw [List.drop_length]; rfl))
      go_wp2_with fail
      go_ret2
      exact ⟨by rw [HE.out]; rfl, below_step B0.out HW.out⟩
theorem runI_le : ∀ (l : List Ins) (m : Nat), m <= 4096 -> (runI m l).1 <= 4096
  | [], m, h => h
  | x :: r, m, h => by
    rw [runI]
    split
    . exact h
    . split
      . show m + 1 <= 4096; omega
      . exact runI_le r (m + 1) (by omega)
theorem runB_le : ∀ (l : List (List Ins)) (m : Nat), m <= 4096 -> (runB m l).1 <= 4096
  | [], m, h => h
  | b :: r, m, h => by
    rw [runB]
    split
    . exact runI_le b m h
    . exact runB_le r _ (runI_le b m h)
end Go.Proofs.YtahhbckccdigoaaGreatDoor
