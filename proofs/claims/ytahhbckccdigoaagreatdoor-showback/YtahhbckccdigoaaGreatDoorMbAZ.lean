/- Layer 7: the parts of Check: counts, ranges, names. -/
import Derived.Test.YtahhbckccdigoaaGreatDoorMbAW
import Derived.Test.YtahhbckccdigoaaGreatDoorMbAY
set_option maxHeartbeats 8000000
set_option maxRecDepth 20000
namespace Go.Proofs.YtahhbckccdigoaaGreatDoor
open Go Go.RowKit
open G (Tok Er Ins Fun)
def tkN (k : Int) : Nat := (L5.takes (L5.num k)).length
def cntOk (k : Int) (a b : Nat) : Bool :=
  if k = 20 then decide ((a : Int) = b) && decide ((0 : Int) < a)
  else if k = 21 then decide ((b : Int) = 0)
  else if k = 24 then decide ((a : Int) = 1) && decide ((b : Int) = 0)
  else if k = 26 then decide ((a : Int) = 0) && decide ((b : Int) = 1)
  else if k = 27 then decide ((a : Int) = 1) && decide ((b : Int) = 2)
  else if k = 28 then decide ((a : Int) <= 1) && decide ((b : Int) = 0)
  else decide ((a : Int) = tkN k) && decide ((b : Int) = 0)
def rngOk (k n : Int) : Bool :=
  if k = 1 then true
  else if k = 11 \/ k = 12 \/ k = 15 \/ k = 13 \/ k = 14 then decide (0 <= n) && decide (n <= 15)
  else if k = 21 \/ k = 23 \/ k = 24 then decide (0 <= n) && decide (n <= 1048576)
  else if k = 29 then decide (0 <= n) && decide (n <= 255)
  else decide (0 <= n) && decide (n <= 0)
theorem ranged1 (id n ty pl : Int) (ar tt : List Int) (nm : List UInt8) (ao to : Option Addr) (ca ct : Nat) (w : World) (hn : I64 n) : Calls Tryz.prog 43 #[.agg #[.int .i64 1, .int .i64 id, .int .i64 n, .int .i64 ty, .slice ao ar.length ca, .slice to tt.length ct, .string (bs nm), .int .i64 pl]] w fun e w' => e = .returned (.bool (rngOk 1 n)) /\ Below w.heap.size w w' := by
  obtain ⟨h1, h2⟩ := hn
  have HB : Hid ((true) = rngOk 1 n) := hide rfl
  have b0 := below_box w (o8 1 id n ty pl ao to ar.length tt.length ca ct nm)
  have H0 := hide (heap_alloc_new w (o8 1 id n ty pl ao to ar.length tt.length ca ct nm))
  have B0 := hide b0
  have hz0 : (w.alloc (o8 1 id n ty pl ao to ar.length tt.length ca ct nm)).heap.size > w.heap.size := by simp
  clear b0
  go_enter Tryz.func43, Tryz.ntmps43
  go_upto_region 1 with fail
  show Code.wp _ _ _ _ (w.alloc (o8 1 id n ty pl ao to ar.length tt.length ca ct nm))
  generalize w.alloc (o8 1 id n ty pl ao to ar.length tt.length ca ct nm) = W at *
  obtain ⟨c0, c1, c2, c3, c4, c5, c6, c7⟩ := box8 H0.out
  generalize hA : ar.length = A at *
  generalize hT : tt.length = T at *
  have HA := hide hA
  have HT := hide hT
  clear hA hT
  go_wp2_with fail
  all_goals
    go_ret
    exact ⟨L5.ret_bool (by first | exact HB.out | (rw [<- HB.out, Bool.eq_iff_iff]; simp; done) | (rw [<- HB.out, Bool.eq_iff_iff]; simp; omega) | (rw [HA.out, HT.out]; exact HB.out) | (rw [HA.out, HT.out, <- HB.out, Bool.eq_iff_iff]; simp; done) | (rw [HA.out, HT.out, <- HB.out, Bool.eq_iff_iff]; simp; omega)), B0.out⟩
theorem ranged11 (id n ty pl : Int) (ar tt : List Int) (nm : List UInt8) (ao to : Option Addr) (ca ct : Nat) (w : World) : Calls Tryz.prog 43 #[.agg #[.int .i64 11, .int .i64 id, .int .i64 n, .int .i64 ty, .slice ao ar.length ca, .slice to tt.length ct, .string (bs nm), .int .i64 pl]] w fun e w' => e = .returned (.bool (rngOk 11 n)) /\ Below w.heap.size w w' := by
  have HB : Hid ((decide (0 <= n) && decide (n <= 15)) = rngOk 11 n) := hide rfl
  have b0 := below_box w (o8 11 id n ty pl ao to ar.length tt.length ca ct nm)
  have H0 := hide (heap_alloc_new w (o8 11 id n ty pl ao to ar.length tt.length ca ct nm))
  have B0 := hide b0
  have hz0 : (w.alloc (o8 11 id n ty pl ao to ar.length tt.length ca ct nm)).heap.size > w.heap.size := by simp
  clear b0
  go_enter Tryz.func43, Tryz.ntmps43
  go_upto_region 1 with fail
  show Code.wp _ _ _ _ (w.alloc (o8 11 id n ty pl ao to ar.length tt.length ca ct nm))
  generalize w.alloc (o8 11 id n ty pl ao to ar.length tt.length ca ct nm) = W at *
  obtain ⟨c0, c1, c2, c3, c4, c5, c6, c7⟩ := box8 H0.out
  generalize hA : ar.length = A at *
  generalize hT : tt.length = T at *
  have HA := hide hA
  have HT := hide hT
  clear hA hT
  go_wp2_with fail
  all_goals
    go_ret
    exact ⟨L5.ret_bool (by first | exact HB.out | (rw [<- HB.out, Bool.eq_iff_iff]; simp; done) | (rw [<- HB.out, Bool.eq_iff_iff]; simp; omega) | (rw [HA.out, HT.out]; exact HB.out) | (rw [HA.out, HT.out, <- HB.out, Bool.eq_iff_iff]; simp; done) | (rw [HA.out, HT.out, <- HB.out, Bool.eq_iff_iff]; simp; omega)), B0.out⟩
theorem ranged12 (id n ty pl : Int) (ar tt : List Int) (nm : List UInt8) (ao to : Option Addr) (ca ct : Nat) (w : World) : Calls Tryz.prog 43 #[.agg #[.int .i64 12, .int .i64 id, .int .i64 n, .int .i64 ty, .slice ao ar.length ca, .slice to tt.length ct, .string (bs nm), .int .i64 pl]] w fun e w' => e = .returned (.bool (rngOk 12 n)) /\ Below w.heap.size w w' := by
  have HB : Hid ((decide (0 <= n) && decide (n <= 15)) = rngOk 12 n) := hide rfl
  have b0 := below_box w (o8 12 id n ty pl ao to ar.length tt.length ca ct nm)
  have H0 := hide (heap_alloc_new w (o8 12 id n ty pl ao to ar.length tt.length ca ct nm))
  have B0 := hide b0
  have hz0 : (w.alloc (o8 12 id n ty pl ao to ar.length tt.length ca ct nm)).heap.size > w.heap.size := by simp
  clear b0
  go_enter Tryz.func43, Tryz.ntmps43
  go_upto_region 1 with fail
  show Code.wp _ _ _ _ (w.alloc (o8 12 id n ty pl ao to ar.length tt.length ca ct nm))
  generalize w.alloc (o8 12 id n ty pl ao to ar.length tt.length ca ct nm) = W at *
  obtain ⟨c0, c1, c2, c3, c4, c5, c6, c7⟩ := box8 H0.out
  generalize hA : ar.length = A at *
  generalize hT : tt.length = T at *
  have HA := hide hA
  have HT := hide hT
  clear hA hT
  go_wp2_with fail
  all_goals
    go_ret
    exact ⟨L5.ret_bool (by first | exact HB.out | (rw [<- HB.out, Bool.eq_iff_iff]; simp; done) | (rw [<- HB.out, Bool.eq_iff_iff]; simp; omega) | (rw [HA.out, HT.out]; exact HB.out) | (rw [HA.out, HT.out, <- HB.out, Bool.eq_iff_iff]; simp; done) | (rw [HA.out, HT.out, <- HB.out, Bool.eq_iff_iff]; simp; omega)), B0.out⟩
theorem ranged15 (id n ty pl : Int) (ar tt : List Int) (nm : List UInt8) (ao to : Option Addr) (ca ct : Nat) (w : World) : Calls Tryz.prog 43 #[.agg #[.int .i64 15, .int .i64 id, .int .i64 n, .int .i64 ty, .slice ao ar.length ca, .slice to tt.length ct, .string (bs nm), .int .i64 pl]] w fun e w' => e = .returned (.bool (rngOk 15 n)) /\ Below w.heap.size w w' := by
  have HB : Hid ((decide (0 <= n) && decide (n <= 15)) = rngOk 15 n) := hide rfl
  have b0 := below_box w (o8 15 id n ty pl ao to ar.length tt.length ca ct nm)
  have H0 := hide (heap_alloc_new w (o8 15 id n ty pl ao to ar.length tt.length ca ct nm))
  have B0 := hide b0
  have hz0 : (w.alloc (o8 15 id n ty pl ao to ar.length tt.length ca ct nm)).heap.size > w.heap.size := by simp
  clear b0
  go_enter Tryz.func43, Tryz.ntmps43
  go_upto_region 1 with fail
  show Code.wp _ _ _ _ (w.alloc (o8 15 id n ty pl ao to ar.length tt.length ca ct nm))
  generalize w.alloc (o8 15 id n ty pl ao to ar.length tt.length ca ct nm) = W at *
  obtain ⟨c0, c1, c2, c3, c4, c5, c6, c7⟩ := box8 H0.out
  generalize hA : ar.length = A at *
  generalize hT : tt.length = T at *
  have HA := hide hA
  have HT := hide hT
  clear hA hT
  go_wp2_with fail
  all_goals
    go_ret
    exact ⟨L5.ret_bool (by first | exact HB.out | (rw [<- HB.out, Bool.eq_iff_iff]; simp; done) | (rw [<- HB.out, Bool.eq_iff_iff]; simp; omega) | (rw [HA.out, HT.out]; exact HB.out) | (rw [HA.out, HT.out, <- HB.out, Bool.eq_iff_iff]; simp; done) | (rw [HA.out, HT.out, <- HB.out, Bool.eq_iff_iff]; simp; omega)), B0.out⟩
theorem ranged13 (id n ty pl : Int) (ar tt : List Int) (nm : List UInt8) (ao to : Option Addr) (ca ct : Nat) (w : World) : Calls Tryz.prog 43 #[.agg #[.int .i64 13, .int .i64 id, .int .i64 n, .int .i64 ty, .slice ao ar.length ca, .slice to tt.length ct, .string (bs nm), .int .i64 pl]] w fun e w' => e = .returned (.bool (rngOk 13 n)) /\ Below w.heap.size w w' := by
  have HB : Hid ((decide (0 <= n) && decide (n <= 15)) = rngOk 13 n) := hide rfl
  have b0 := below_box w (o8 13 id n ty pl ao to ar.length tt.length ca ct nm)
  have H0 := hide (heap_alloc_new w (o8 13 id n ty pl ao to ar.length tt.length ca ct nm))
  have B0 := hide b0
  have hz0 : (w.alloc (o8 13 id n ty pl ao to ar.length tt.length ca ct nm)).heap.size > w.heap.size := by simp
  clear b0
  go_enter Tryz.func43, Tryz.ntmps43
  go_upto_region 1 with fail
  show Code.wp _ _ _ _ (w.alloc (o8 13 id n ty pl ao to ar.length tt.length ca ct nm))
  generalize w.alloc (o8 13 id n ty pl ao to ar.length tt.length ca ct nm) = W at *
  obtain ⟨c0, c1, c2, c3, c4, c5, c6, c7⟩ := box8 H0.out
  generalize hA : ar.length = A at *
  generalize hT : tt.length = T at *
  have HA := hide hA
  have HT := hide hT
  clear hA hT
  go_wp2_with fail
  all_goals
    go_ret
    exact ⟨L5.ret_bool (by first | exact HB.out | (rw [<- HB.out, Bool.eq_iff_iff]; simp; done) | (rw [<- HB.out, Bool.eq_iff_iff]; simp; omega) | (rw [HA.out, HT.out]; exact HB.out) | (rw [HA.out, HT.out, <- HB.out, Bool.eq_iff_iff]; simp; done) | (rw [HA.out, HT.out, <- HB.out, Bool.eq_iff_iff]; simp; omega)), B0.out⟩
theorem ranged14 (id n ty pl : Int) (ar tt : List Int) (nm : List UInt8) (ao to : Option Addr) (ca ct : Nat) (w : World) : Calls Tryz.prog 43 #[.agg #[.int .i64 14, .int .i64 id, .int .i64 n, .int .i64 ty, .slice ao ar.length ca, .slice to tt.length ct, .string (bs nm), .int .i64 pl]] w fun e w' => e = .returned (.bool (rngOk 14 n)) /\ Below w.heap.size w w' := by
  have HB : Hid ((decide (0 <= n) && decide (n <= 15)) = rngOk 14 n) := hide rfl
  have b0 := below_box w (o8 14 id n ty pl ao to ar.length tt.length ca ct nm)
  have H0 := hide (heap_alloc_new w (o8 14 id n ty pl ao to ar.length tt.length ca ct nm))
  have B0 := hide b0
  have hz0 : (w.alloc (o8 14 id n ty pl ao to ar.length tt.length ca ct nm)).heap.size > w.heap.size := by simp
  clear b0
  go_enter Tryz.func43, Tryz.ntmps43
  go_upto_region 1 with fail
  show Code.wp _ _ _ _ (w.alloc (o8 14 id n ty pl ao to ar.length tt.length ca ct nm))
  generalize w.alloc (o8 14 id n ty pl ao to ar.length tt.length ca ct nm) = W at *
  obtain ⟨c0, c1, c2, c3, c4, c5, c6, c7⟩ := box8 H0.out
  generalize hA : ar.length = A at *
  generalize hT : tt.length = T at *
  have HA := hide hA
  have HT := hide hT
  clear hA hT
  go_wp2_with fail
  all_goals
    go_ret
    exact ⟨L5.ret_bool (by first | exact HB.out | (rw [<- HB.out, Bool.eq_iff_iff]; simp; done) | (rw [<- HB.out, Bool.eq_iff_iff]; simp; omega) | (rw [HA.out, HT.out]; exact HB.out) | (rw [HA.out, HT.out, <- HB.out, Bool.eq_iff_iff]; simp; done) | (rw [HA.out, HT.out, <- HB.out, Bool.eq_iff_iff]; simp; omega)), B0.out⟩
theorem ranged21 (id n ty pl : Int) (ar tt : List Int) (nm : List UInt8) (ao to : Option Addr) (ca ct : Nat) (w : World) : Calls Tryz.prog 43 #[.agg #[.int .i64 21, .int .i64 id, .int .i64 n, .int .i64 ty, .slice ao ar.length ca, .slice to tt.length ct, .string (bs nm), .int .i64 pl]] w fun e w' => e = .returned (.bool (rngOk 21 n)) /\ Below w.heap.size w w' := by
  have HB : Hid ((decide (0 <= n) && decide (n <= 1048576)) = rngOk 21 n) := hide rfl
  have b0 := below_box w (o8 21 id n ty pl ao to ar.length tt.length ca ct nm)
  have H0 := hide (heap_alloc_new w (o8 21 id n ty pl ao to ar.length tt.length ca ct nm))
  have B0 := hide b0
  have hz0 : (w.alloc (o8 21 id n ty pl ao to ar.length tt.length ca ct nm)).heap.size > w.heap.size := by simp
  clear b0
  go_enter Tryz.func43, Tryz.ntmps43
  go_upto_region 1 with fail
  show Code.wp _ _ _ _ (w.alloc (o8 21 id n ty pl ao to ar.length tt.length ca ct nm))
  generalize w.alloc (o8 21 id n ty pl ao to ar.length tt.length ca ct nm) = W at *
  obtain ⟨c0, c1, c2, c3, c4, c5, c6, c7⟩ := box8 H0.out
  generalize hA : ar.length = A at *
  generalize hT : tt.length = T at *
  have HA := hide hA
  have HT := hide hT
  clear hA hT
  go_wp2_with fail
  all_goals
    go_ret
    exact ⟨L5.ret_bool (by first | exact HB.out | (rw [<- HB.out, Bool.eq_iff_iff]; simp; done) | (rw [<- HB.out, Bool.eq_iff_iff]; simp; omega) | (rw [HA.out, HT.out]; exact HB.out) | (rw [HA.out, HT.out, <- HB.out, Bool.eq_iff_iff]; simp; done) | (rw [HA.out, HT.out, <- HB.out, Bool.eq_iff_iff]; simp; omega)), B0.out⟩
theorem ranged23 (id n ty pl : Int) (ar tt : List Int) (nm : List UInt8) (ao to : Option Addr) (ca ct : Nat) (w : World) : Calls Tryz.prog 43 #[.agg #[.int .i64 23, .int .i64 id, .int .i64 n, .int .i64 ty, .slice ao ar.length ca, .slice to tt.length ct, .string (bs nm), .int .i64 pl]] w fun e w' => e = .returned (.bool (rngOk 23 n)) /\ Below w.heap.size w w' := by
  have HB : Hid ((decide (0 <= n) && decide (n <= 1048576)) = rngOk 23 n) := hide rfl
  have b0 := below_box w (o8 23 id n ty pl ao to ar.length tt.length ca ct nm)
  have H0 := hide (heap_alloc_new w (o8 23 id n ty pl ao to ar.length tt.length ca ct nm))
  have B0 := hide b0
  have hz0 : (w.alloc (o8 23 id n ty pl ao to ar.length tt.length ca ct nm)).heap.size > w.heap.size := by simp
  clear b0
  go_enter Tryz.func43, Tryz.ntmps43
  go_upto_region 1 with fail
  show Code.wp _ _ _ _ (w.alloc (o8 23 id n ty pl ao to ar.length tt.length ca ct nm))
  generalize w.alloc (o8 23 id n ty pl ao to ar.length tt.length ca ct nm) = W at *
  obtain ⟨c0, c1, c2, c3, c4, c5, c6, c7⟩ := box8 H0.out
  generalize hA : ar.length = A at *
  generalize hT : tt.length = T at *
  have HA := hide hA
  have HT := hide hT
  clear hA hT
  go_wp2_with fail
  all_goals
    go_ret
    exact ⟨L5.ret_bool (by first | exact HB.out | (rw [<- HB.out, Bool.eq_iff_iff]; simp; done) | (rw [<- HB.out, Bool.eq_iff_iff]; simp; omega) | (rw [HA.out, HT.out]; exact HB.out) | (rw [HA.out, HT.out, <- HB.out, Bool.eq_iff_iff]; simp; done) | (rw [HA.out, HT.out, <- HB.out, Bool.eq_iff_iff]; simp; omega)), B0.out⟩
theorem ranged24 (id n ty pl : Int) (ar tt : List Int) (nm : List UInt8) (ao to : Option Addr) (ca ct : Nat) (w : World) : Calls Tryz.prog 43 #[.agg #[.int .i64 24, .int .i64 id, .int .i64 n, .int .i64 ty, .slice ao ar.length ca, .slice to tt.length ct, .string (bs nm), .int .i64 pl]] w fun e w' => e = .returned (.bool (rngOk 24 n)) /\ Below w.heap.size w w' := by
  have HB : Hid ((decide (0 <= n) && decide (n <= 1048576)) = rngOk 24 n) := hide rfl
  have b0 := below_box w (o8 24 id n ty pl ao to ar.length tt.length ca ct nm)
  have H0 := hide (heap_alloc_new w (o8 24 id n ty pl ao to ar.length tt.length ca ct nm))
  have B0 := hide b0
  have hz0 : (w.alloc (o8 24 id n ty pl ao to ar.length tt.length ca ct nm)).heap.size > w.heap.size := by simp
  clear b0
  go_enter Tryz.func43, Tryz.ntmps43
  go_upto_region 1 with fail
  show Code.wp _ _ _ _ (w.alloc (o8 24 id n ty pl ao to ar.length tt.length ca ct nm))
  generalize w.alloc (o8 24 id n ty pl ao to ar.length tt.length ca ct nm) = W at *
  obtain ⟨c0, c1, c2, c3, c4, c5, c6, c7⟩ := box8 H0.out
  generalize hA : ar.length = A at *
  generalize hT : tt.length = T at *
  have HA := hide hA
  have HT := hide hT
  clear hA hT
  go_wp2_with fail
  all_goals
    go_ret
    exact ⟨L5.ret_bool (by first | exact HB.out | (rw [<- HB.out, Bool.eq_iff_iff]; simp; done) | (rw [<- HB.out, Bool.eq_iff_iff]; simp; omega) | (rw [HA.out, HT.out]; exact HB.out) | (rw [HA.out, HT.out, <- HB.out, Bool.eq_iff_iff]; simp; done) | (rw [HA.out, HT.out, <- HB.out, Bool.eq_iff_iff]; simp; omega)), B0.out⟩
theorem ranged29 (id n ty pl : Int) (ar tt : List Int) (nm : List UInt8) (ao to : Option Addr) (ca ct : Nat) (w : World) : Calls Tryz.prog 43 #[.agg #[.int .i64 29, .int .i64 id, .int .i64 n, .int .i64 ty, .slice ao ar.length ca, .slice to tt.length ct, .string (bs nm), .int .i64 pl]] w fun e w' => e = .returned (.bool (rngOk 29 n)) /\ Below w.heap.size w w' := by
  have HB : Hid ((decide (0 <= n) && decide (n <= 255)) = rngOk 29 n) := hide rfl
  have b0 := below_box w (o8 29 id n ty pl ao to ar.length tt.length ca ct nm)
  have H0 := hide (heap_alloc_new w (o8 29 id n ty pl ao to ar.length tt.length ca ct nm))
  have B0 := hide b0
  have hz0 : (w.alloc (o8 29 id n ty pl ao to ar.length tt.length ca ct nm)).heap.size > w.heap.size := by simp
  clear b0
  go_enter Tryz.func43, Tryz.ntmps43
  go_upto_region 1 with fail
  show Code.wp _ _ _ _ (w.alloc (o8 29 id n ty pl ao to ar.length tt.length ca ct nm))
  generalize w.alloc (o8 29 id n ty pl ao to ar.length tt.length ca ct nm) = W at *
  obtain ⟨c0, c1, c2, c3, c4, c5, c6, c7⟩ := box8 H0.out
  generalize hA : ar.length = A at *
  generalize hT : tt.length = T at *
  have HA := hide hA
  have HT := hide hT
  clear hA hT
  go_wp2_with fail
  all_goals
    go_ret
    exact ⟨L5.ret_bool (by first | exact HB.out | (rw [<- HB.out, Bool.eq_iff_iff]; simp; done) | (rw [<- HB.out, Bool.eq_iff_iff]; simp; omega) | (rw [HA.out, HT.out]; exact HB.out) | (rw [HA.out, HT.out, <- HB.out, Bool.eq_iff_iff]; simp; done) | (rw [HA.out, HT.out, <- HB.out, Bool.eq_iff_iff]; simp; omega)), B0.out⟩
theorem ranged_else (k : Int) (hk : k ≠ 1 /\ k ≠ 11 /\ k ≠ 12 /\ k ≠ 15 /\ k ≠ 13 /\ k ≠ 14 /\ k ≠ 21 /\ k ≠ 23 /\ k ≠ 24 /\ k ≠ 29) (id n ty pl : Int) (ar tt : List Int) (nm : List UInt8) (ao to : Option Addr) (ca ct : Nat) (w : World) : Calls Tryz.prog 43 #[.agg #[.int .i64 k, .int .i64 id, .int .i64 n, .int .i64 ty, .slice ao ar.length ca, .slice to tt.length ct, .string (bs nm), .int .i64 pl]] w fun e w' => e = .returned (.bool (rngOk k n)) /\ Below w.heap.size w w' := by
  have HB : Hid ((decide (0 <= n) && decide (n <= 0)) = rngOk k n) := hide (by unfold rngOk; rw [if_neg (by omega), if_neg (by omega), if_neg (by omega), if_neg (by omega)])
  obtain ⟨n1, n11, n12, n15, n13, n14, n21, n23, n24, n29⟩ := hk
  replace n1 : (k == 1) = false := by simpa using n1
  replace n11 : (k == 11) = false := by simpa using n11
  replace n12 : (k == 12) = false := by simpa using n12
  replace n15 : (k == 15) = false := by simpa using n15
  replace n13 : (k == 13) = false := by simpa using n13
  replace n14 : (k == 14) = false := by simpa using n14
  replace n21 : (k == 21) = false := by simpa using n21
  replace n23 : (k == 23) = false := by simpa using n23
  replace n24 : (k == 24) = false := by simpa using n24
  replace n29 : (k == 29) = false := by simpa using n29
  have b0 := below_box w (o8 k id n ty pl ao to ar.length tt.length ca ct nm)
  have H0 := hide (heap_alloc_new w (o8 k id n ty pl ao to ar.length tt.length ca ct nm))
  have B0 := hide b0
  have hz0 : (w.alloc (o8 k id n ty pl ao to ar.length tt.length ca ct nm)).heap.size > w.heap.size := by simp
  clear b0
  go_enter Tryz.func43, Tryz.ntmps43
  go_upto_region 1 with fail
  show Code.wp _ _ _ _ (w.alloc (o8 k id n ty pl ao to ar.length tt.length ca ct nm))
  generalize w.alloc (o8 k id n ty pl ao to ar.length tt.length ca ct nm) = W at *
  obtain ⟨c0, c1, c2, c3, c4, c5, c6, c7⟩ := box8 H0.out
  generalize hA : ar.length = A at *
  generalize hT : tt.length = T at *
  have HA := hide hA
  have HT := hide hT
  clear hA hT
  go_wp2_with fail
  all_goals
    go_ret
    exact ⟨L5.ret_bool (by first | exact HB.out | (rw [<- HB.out, Bool.eq_iff_iff]; simp; done) | (rw [<- HB.out, Bool.eq_iff_iff]; simp; omega) | (rw [HA.out, HT.out]; exact HB.out) | (rw [HA.out, HT.out, <- HB.out, Bool.eq_iff_iff]; simp; done) | (rw [HA.out, HT.out, <- HB.out, Bool.eq_iff_iff]; simp; omega)), B0.out⟩
theorem ranged_any (k : Int) (id n ty pl : Int) (ar tt : List Int) (nm : List UInt8) (ao to : Option Addr) (ca ct : Nat) (w : World) (hn : I64 n) : Calls Tryz.prog 43 #[.agg #[.int .i64 k, .int .i64 id, .int .i64 n, .int .i64 ty, .slice ao ar.length ca, .slice to tt.length ct, .string (bs nm), .int .i64 pl]] w fun e w' => e = .returned (.bool (rngOk k n)) /\ Below w.heap.size w w' := by
  by_cases h1 : k = 1
  . subst h1; exact ranged1 id n ty pl ar tt nm ao to ca ct w hn
  by_cases h11 : k = 11
  . subst h11; exact ranged11 id n ty pl ar tt nm ao to ca ct w
  by_cases h12 : k = 12
  . subst h12; exact ranged12 id n ty pl ar tt nm ao to ca ct w
  by_cases h15 : k = 15
  . subst h15; exact ranged15 id n ty pl ar tt nm ao to ca ct w
  by_cases h13 : k = 13
  . subst h13; exact ranged13 id n ty pl ar tt nm ao to ca ct w
  by_cases h14 : k = 14
  . subst h14; exact ranged14 id n ty pl ar tt nm ao to ca ct w
  by_cases h21 : k = 21
  . subst h21; exact ranged21 id n ty pl ar tt nm ao to ca ct w
  by_cases h23 : k = 23
  . subst h23; exact ranged23 id n ty pl ar tt nm ao to ca ct w
  by_cases h24 : k = 24
  . subst h24; exact ranged24 id n ty pl ar tt nm ao to ca ct w
  by_cases h29 : k = 29
  . subst h29; exact ranged29 id n ty pl ar tt nm ao to ca ct w
  exact ranged_else k ⟨h1, h11, h12, h15, h13, h14, h21, h23, h24, h29⟩ id n ty pl ar tt nm ao to ca ct w
theorem counted20 (id n ty pl : Int) (ar tt : List Int) (nm : List UInt8) (ao to : Option Addr) (ca ct : Nat) (w : World) (hL : ar.length <= maxLen /\ tt.length <= maxLen) : Calls Tryz.prog 42 #[.agg #[.int .i64 20, .int .i64 id, .int .i64 n, .int .i64 ty, .slice ao ar.length ca, .slice to tt.length ct, .string (bs nm), .int .i64 pl]] w fun e w' => e = .returned (.bool (cntOk 20 ar.length tt.length)) /\ Below w.heap.size w w' := by
  have HB : Hid ((decide ((ar.length : Int) = tt.length) && decide ((0 : Int) < ar.length)) = cntOk 20 ar.length tt.length) := hide rfl
  obtain ⟨la, lt⟩ := hL
  unfold maxLen at la lt
  have b0 := below_box w (o8 20 id n ty pl ao to ar.length tt.length ca ct nm)
  have H0 := hide (heap_alloc_new w (o8 20 id n ty pl ao to ar.length tt.length ca ct nm))
  have B0 := hide b0
  have hz0 : (w.alloc (o8 20 id n ty pl ao to ar.length tt.length ca ct nm)).heap.size > w.heap.size := by simp
  clear b0
  go_enter Tryz.func42, Tryz.ntmps42
  go_upto_region 1 with fail
  show Code.wp _ _ _ _ (w.alloc (o8 20 id n ty pl ao to ar.length tt.length ca ct nm))
  generalize w.alloc (o8 20 id n ty pl ao to ar.length tt.length ca ct nm) = W at *
  obtain ⟨c0, c1, c2, c3, c4, c5, c6, c7⟩ := box8 H0.out
  generalize hA : ar.length = A at *
  generalize hT : tt.length = T at *
  have HA := hide hA
  have HT := hide hT
  clear hA hT
  go_wp2_with fail
  go_quiet (fail)
  go_wp2_with fail
  all_goals
    go_ret
    exact ⟨L5.ret_bool (by first | exact HB.out | (rw [<- HB.out, Bool.eq_iff_iff]; simp; done) | (rw [<- HB.out, Bool.eq_iff_iff]; simp; omega) | (rw [HA.out, HT.out]; exact HB.out) | (rw [HA.out, HT.out, <- HB.out, Bool.eq_iff_iff]; simp; done) | (rw [HA.out, HT.out, <- HB.out, Bool.eq_iff_iff]; simp; omega)), below_dn B0.out _⟩
theorem counted21 (id n ty pl : Int) (ar tt : List Int) (nm : List UInt8) (ao to : Option Addr) (ca ct : Nat) (w : World) (hL : ar.length <= maxLen /\ tt.length <= maxLen) : Calls Tryz.prog 42 #[.agg #[.int .i64 21, .int .i64 id, .int .i64 n, .int .i64 ty, .slice ao ar.length ca, .slice to tt.length ct, .string (bs nm), .int .i64 pl]] w fun e w' => e = .returned (.bool (cntOk 21 ar.length tt.length)) /\ Below w.heap.size w w' := by
  have HB : Hid ((decide ((tt.length : Int) = 0)) = cntOk 21 ar.length tt.length) := hide rfl
  obtain ⟨la, lt⟩ := hL
  unfold maxLen at la lt
  have b0 := below_box w (o8 21 id n ty pl ao to ar.length tt.length ca ct nm)
  have H0 := hide (heap_alloc_new w (o8 21 id n ty pl ao to ar.length tt.length ca ct nm))
  have B0 := hide b0
  have hz0 : (w.alloc (o8 21 id n ty pl ao to ar.length tt.length ca ct nm)).heap.size > w.heap.size := by simp
  clear b0
  go_enter Tryz.func42, Tryz.ntmps42
  go_upto_region 1 with fail
  show Code.wp _ _ _ _ (w.alloc (o8 21 id n ty pl ao to ar.length tt.length ca ct nm))
  generalize w.alloc (o8 21 id n ty pl ao to ar.length tt.length ca ct nm) = W at *
  obtain ⟨c0, c1, c2, c3, c4, c5, c6, c7⟩ := box8 H0.out
  generalize hA : ar.length = A at *
  generalize hT : tt.length = T at *
  have HA := hide hA
  have HT := hide hT
  clear hA hT
  go_wp2_with fail
  go_quiet (fail)
  go_wp2_with fail
  all_goals
    go_ret
    exact ⟨L5.ret_bool (by first | exact HB.out | (rw [<- HB.out, Bool.eq_iff_iff]; simp; done) | (rw [<- HB.out, Bool.eq_iff_iff]; simp; omega) | (rw [HA.out, HT.out]; exact HB.out) | (rw [HA.out, HT.out, <- HB.out, Bool.eq_iff_iff]; simp; done) | (rw [HA.out, HT.out, <- HB.out, Bool.eq_iff_iff]; simp; omega)), below_dn B0.out _⟩
theorem counted24 (id n ty pl : Int) (ar tt : List Int) (nm : List UInt8) (ao to : Option Addr) (ca ct : Nat) (w : World) (hL : ar.length <= maxLen /\ tt.length <= maxLen) : Calls Tryz.prog 42 #[.agg #[.int .i64 24, .int .i64 id, .int .i64 n, .int .i64 ty, .slice ao ar.length ca, .slice to tt.length ct, .string (bs nm), .int .i64 pl]] w fun e w' => e = .returned (.bool (cntOk 24 ar.length tt.length)) /\ Below w.heap.size w w' := by
  have HB : Hid ((decide ((ar.length : Int) = 1) && decide ((tt.length : Int) = 0)) = cntOk 24 ar.length tt.length) := hide rfl
  obtain ⟨la, lt⟩ := hL
  unfold maxLen at la lt
  have b0 := below_box w (o8 24 id n ty pl ao to ar.length tt.length ca ct nm)
  have H0 := hide (heap_alloc_new w (o8 24 id n ty pl ao to ar.length tt.length ca ct nm))
  have B0 := hide b0
  have hz0 : (w.alloc (o8 24 id n ty pl ao to ar.length tt.length ca ct nm)).heap.size > w.heap.size := by simp
  clear b0
  go_enter Tryz.func42, Tryz.ntmps42
  go_upto_region 1 with fail
  show Code.wp _ _ _ _ (w.alloc (o8 24 id n ty pl ao to ar.length tt.length ca ct nm))
  generalize w.alloc (o8 24 id n ty pl ao to ar.length tt.length ca ct nm) = W at *
  obtain ⟨c0, c1, c2, c3, c4, c5, c6, c7⟩ := box8 H0.out
  generalize hA : ar.length = A at *
  generalize hT : tt.length = T at *
  have HA := hide hA
  have HT := hide hT
  clear hA hT
  go_wp2_with fail
  go_quiet (fail)
  go_wp2_with fail
  all_goals
    go_ret
    exact ⟨L5.ret_bool (by first | exact HB.out | (rw [<- HB.out, Bool.eq_iff_iff]; simp; done) | (rw [<- HB.out, Bool.eq_iff_iff]; simp; omega) | (rw [HA.out, HT.out]; exact HB.out) | (rw [HA.out, HT.out, <- HB.out, Bool.eq_iff_iff]; simp; done) | (rw [HA.out, HT.out, <- HB.out, Bool.eq_iff_iff]; simp; omega)), below_dn B0.out _⟩
theorem counted26 (id n ty pl : Int) (ar tt : List Int) (nm : List UInt8) (ao to : Option Addr) (ca ct : Nat) (w : World) (hL : ar.length <= maxLen /\ tt.length <= maxLen) : Calls Tryz.prog 42 #[.agg #[.int .i64 26, .int .i64 id, .int .i64 n, .int .i64 ty, .slice ao ar.length ca, .slice to tt.length ct, .string (bs nm), .int .i64 pl]] w fun e w' => e = .returned (.bool (cntOk 26 ar.length tt.length)) /\ Below w.heap.size w w' := by
  have HB : Hid ((decide ((ar.length : Int) = 0) && decide ((tt.length : Int) = 1)) = cntOk 26 ar.length tt.length) := hide rfl
  obtain ⟨la, lt⟩ := hL
  unfold maxLen at la lt
  have b0 := below_box w (o8 26 id n ty pl ao to ar.length tt.length ca ct nm)
  have H0 := hide (heap_alloc_new w (o8 26 id n ty pl ao to ar.length tt.length ca ct nm))
  have B0 := hide b0
  have hz0 : (w.alloc (o8 26 id n ty pl ao to ar.length tt.length ca ct nm)).heap.size > w.heap.size := by simp
  clear b0
  go_enter Tryz.func42, Tryz.ntmps42
  go_upto_region 1 with fail
  show Code.wp _ _ _ _ (w.alloc (o8 26 id n ty pl ao to ar.length tt.length ca ct nm))
  generalize w.alloc (o8 26 id n ty pl ao to ar.length tt.length ca ct nm) = W at *
  obtain ⟨c0, c1, c2, c3, c4, c5, c6, c7⟩ := box8 H0.out
  generalize hA : ar.length = A at *
  generalize hT : tt.length = T at *
  have HA := hide hA
  have HT := hide hT
  clear hA hT
  go_wp2_with fail
  go_quiet (fail)
  go_wp2_with fail
  all_goals
    go_ret
    exact ⟨L5.ret_bool (by first | exact HB.out | (rw [<- HB.out, Bool.eq_iff_iff]; simp; done) | (rw [<- HB.out, Bool.eq_iff_iff]; simp; omega) | (rw [HA.out, HT.out]; exact HB.out) | (rw [HA.out, HT.out, <- HB.out, Bool.eq_iff_iff]; simp; done) | (rw [HA.out, HT.out, <- HB.out, Bool.eq_iff_iff]; simp; omega)), below_dn B0.out _⟩
theorem counted27 (id n ty pl : Int) (ar tt : List Int) (nm : List UInt8) (ao to : Option Addr) (ca ct : Nat) (w : World) (hL : ar.length <= maxLen /\ tt.length <= maxLen) : Calls Tryz.prog 42 #[.agg #[.int .i64 27, .int .i64 id, .int .i64 n, .int .i64 ty, .slice ao ar.length ca, .slice to tt.length ct, .string (bs nm), .int .i64 pl]] w fun e w' => e = .returned (.bool (cntOk 27 ar.length tt.length)) /\ Below w.heap.size w w' := by
  have HB : Hid ((decide ((ar.length : Int) = 1) && decide ((tt.length : Int) = 2)) = cntOk 27 ar.length tt.length) := hide rfl
  obtain ⟨la, lt⟩ := hL
  unfold maxLen at la lt
  have b0 := below_box w (o8 27 id n ty pl ao to ar.length tt.length ca ct nm)
  have H0 := hide (heap_alloc_new w (o8 27 id n ty pl ao to ar.length tt.length ca ct nm))
  have B0 := hide b0
  have hz0 : (w.alloc (o8 27 id n ty pl ao to ar.length tt.length ca ct nm)).heap.size > w.heap.size := by simp
  clear b0
  go_enter Tryz.func42, Tryz.ntmps42
  go_upto_region 1 with fail
  show Code.wp _ _ _ _ (w.alloc (o8 27 id n ty pl ao to ar.length tt.length ca ct nm))
  generalize w.alloc (o8 27 id n ty pl ao to ar.length tt.length ca ct nm) = W at *
  obtain ⟨c0, c1, c2, c3, c4, c5, c6, c7⟩ := box8 H0.out
  generalize hA : ar.length = A at *
  generalize hT : tt.length = T at *
  have HA := hide hA
  have HT := hide hT
  clear hA hT
  go_wp2_with fail
  go_quiet (fail)
  go_wp2_with fail
  all_goals
    go_ret
    exact ⟨L5.ret_bool (by first | exact HB.out | (rw [<- HB.out, Bool.eq_iff_iff]; simp; done) | (rw [<- HB.out, Bool.eq_iff_iff]; simp; omega) | (rw [HA.out, HT.out]; exact HB.out) | (rw [HA.out, HT.out, <- HB.out, Bool.eq_iff_iff]; simp; done) | (rw [HA.out, HT.out, <- HB.out, Bool.eq_iff_iff]; simp; omega)), below_dn B0.out _⟩
theorem counted28 (id n ty pl : Int) (ar tt : List Int) (nm : List UInt8) (ao to : Option Addr) (ca ct : Nat) (w : World) (hL : ar.length <= maxLen /\ tt.length <= maxLen) : Calls Tryz.prog 42 #[.agg #[.int .i64 28, .int .i64 id, .int .i64 n, .int .i64 ty, .slice ao ar.length ca, .slice to tt.length ct, .string (bs nm), .int .i64 pl]] w fun e w' => e = .returned (.bool (cntOk 28 ar.length tt.length)) /\ Below w.heap.size w w' := by
  have HB : Hid ((decide ((ar.length : Int) <= 1) && decide ((tt.length : Int) = 0)) = cntOk 28 ar.length tt.length) := hide rfl
  obtain ⟨la, lt⟩ := hL
  unfold maxLen at la lt
  have b0 := below_box w (o8 28 id n ty pl ao to ar.length tt.length ca ct nm)
  have H0 := hide (heap_alloc_new w (o8 28 id n ty pl ao to ar.length tt.length ca ct nm))
  have B0 := hide b0
  have hz0 : (w.alloc (o8 28 id n ty pl ao to ar.length tt.length ca ct nm)).heap.size > w.heap.size := by simp
  clear b0
  go_enter Tryz.func42, Tryz.ntmps42
  go_upto_region 1 with fail
  show Code.wp _ _ _ _ (w.alloc (o8 28 id n ty pl ao to ar.length tt.length ca ct nm))
  generalize w.alloc (o8 28 id n ty pl ao to ar.length tt.length ca ct nm) = W at *
  obtain ⟨c0, c1, c2, c3, c4, c5, c6, c7⟩ := box8 H0.out
  generalize hA : ar.length = A at *
  generalize hT : tt.length = T at *
  have HA := hide hA
  have HT := hide hT
  clear hA hT
  go_wp2_with fail
  go_quiet (fail)
  go_wp2_with fail
  all_goals
    go_ret
    exact ⟨L5.ret_bool (by first | exact HB.out | (rw [<- HB.out, Bool.eq_iff_iff]; simp; done) | (rw [<- HB.out, Bool.eq_iff_iff]; simp; omega) | (rw [HA.out, HT.out]; exact HB.out) | (rw [HA.out, HT.out, <- HB.out, Bool.eq_iff_iff]; simp; done) | (rw [HA.out, HT.out, <- HB.out, Bool.eq_iff_iff]; simp; omega)), below_dn B0.out _⟩
theorem counted_else (k : Int) (hk : k ≠ 20 /\ k ≠ 21 /\ k ≠ 24 /\ k ≠ 26 /\ k ≠ 27 /\ k ≠ 28) (id n ty pl : Int) (ar tt : List Int) (nm : List UInt8) (ao to : Option Addr) (ca ct : Nat) (w : World) (hL : ar.length <= maxLen /\ tt.length <= maxLen) (ht : L5.Tab w) : Calls Tryz.prog 42 #[.agg #[.int .i64 k, .int .i64 id, .int .i64 n, .int .i64 ty, .slice ao ar.length ca, .slice to tt.length ct, .string (bs nm), .int .i64 pl]] w fun e w' => e = .returned (.bool (cntOk k ar.length tt.length)) /\ Below w.heap.size w w' := by
  have HB : Hid ((decide ((ar.length : Int) = tkN k) && decide ((tt.length : Int) = 0)) = cntOk k ar.length tt.length) := hide (by unfold cntOk; rw [if_neg (by omega), if_neg (by omega), if_neg (by omega), if_neg (by omega), if_neg (by omega), if_neg (by omega)])
  obtain ⟨la, lt⟩ := hL
  unfold maxLen at la lt
  obtain ⟨n20, n21, n24, n26, n27, n28⟩ := hk
  replace n20 : (k == 20) = false := by simpa using n20
  replace n21 : (k == 21) = false := by simpa using n21
  replace n24 : (k == 24) = false := by simpa using n24
  replace n26 : (k == 26) = false := by simpa using n26
  replace n27 : (k == 27) = false := by simpa using n27
  replace n28 : (k == 28) = false := by simpa using n28
  have T0 := hide (ht.below (below_box w (o8 k id n ty pl ao to ar.length tt.length ca ct nm)))
  clear ht
  have b0 := below_box w (o8 k id n ty pl ao to ar.length tt.length ca ct nm)
  have H0 := hide (heap_alloc_new w (o8 k id n ty pl ao to ar.length tt.length ca ct nm))
  have B0 := hide b0
  have hz0 : (w.alloc (o8 k id n ty pl ao to ar.length tt.length ca ct nm)).heap.size > w.heap.size := by simp
  clear b0
  go_enter Tryz.func42, Tryz.ntmps42
  go_upto_region 1 with fail
  show Code.wp _ _ _ _ (w.alloc (o8 k id n ty pl ao to ar.length tt.length ca ct nm))
  generalize w.alloc (o8 k id n ty pl ao to ar.length tt.length ca ct nm) = W at *
  obtain ⟨c0, c1, c2, c3, c4, c5, c6, c7⟩ := box8 H0.out
  generalize hA : ar.length = A at *
  generalize hT : tt.length = T at *
  have HA := hide hA
  have HT := hide hT
  clear hA hT
  go_wp2_with fail
  go_quiet (fail)
  go_wp2_with fail
  refine (L5.takes_any k (W.drewN _) T0.out).mono ?_; rintro e w1 ⟨ao1, cap1, rfl, s1, b1⟩
  have HTk : Hid ((L5.takes (L5.num k)).length = tkN k) := hide rfl
  have htl : tkN k <= 2 := by unfold tkN L5.takes; exact List.length_filter_le _ _
  have B1 := hide b1
  rw [HTk.out]
  clear s1 b1
  generalize tkN k = tk at *
  go_wp2_with fail
  all_goals
    go_ret
    exact ⟨L5.ret_bool (by first | exact HB.out | (rw [<- HB.out, Bool.eq_iff_iff]; simp; done) | (rw [<- HB.out, Bool.eq_iff_iff]; simp; omega) | (rw [HA.out, HT.out]; exact HB.out) | (rw [HA.out, HT.out, <- HB.out, Bool.eq_iff_iff]; simp; done) | (rw [HA.out, HT.out, <- HB.out, Bool.eq_iff_iff]; simp; omega)), below_step (below_dn B0.out _) B1.out⟩
theorem counted_any (k : Int) (id n ty pl : Int) (ar tt : List Int) (nm : List UInt8) (ao to : Option Addr) (ca ct : Nat) (w : World) (hL : ar.length <= maxLen /\ tt.length <= maxLen) (ht : L5.Tab w) : Calls Tryz.prog 42 #[.agg #[.int .i64 k, .int .i64 id, .int .i64 n, .int .i64 ty, .slice ao ar.length ca, .slice to tt.length ct, .string (bs nm), .int .i64 pl]] w fun e w' => e = .returned (.bool (cntOk k ar.length tt.length)) /\ Below w.heap.size w w' := by
  by_cases h20 : k = 20
  . subst h20; exact counted20 id n ty pl ar tt nm ao to ca ct w hL
  by_cases h21 : k = 21
  . subst h21; exact counted21 id n ty pl ar tt nm ao to ca ct w hL
  by_cases h24 : k = 24
  . subst h24; exact counted24 id n ty pl ar tt nm ao to ca ct w hL
  by_cases h26 : k = 26
  . subst h26; exact counted26 id n ty pl ar tt nm ao to ca ct w hL
  by_cases h27 : k = 27
  . subst h27; exact counted27 id n ty pl ar tt nm ao to ca ct w hL
  by_cases h28 : k = 28
  . subst h28; exact counted28 id n ty pl ar tt nm ao to ca ct w hL
  exact counted_else k ⟨h20, h21, h24, h26, h27, h28⟩ id n ty pl ar tt nm ao to ca ct w hL ht
theorem rcounted20 (id n ty pl : Int) (ar tt : List Int) (nm : List UInt8) (ao to : Option Addr) (ca ct : Nat) (w : World) (hL : ar.length <= maxLen /\ tt.length <= maxLen) : Calls Tryz.prog 48 #[.agg #[.int .i64 20, .int .i64 id, .int .i64 n, .int .i64 ty, .slice ao ar.length ca, .slice to tt.length ct, .string (bs nm), .int .i64 pl]] w fun e w' => e = .returned (.bool (cntOk 20 ar.length tt.length)) /\ Below w.heap.size w w' := by
  have HB : Hid ((decide ((ar.length : Int) = tt.length) && decide ((0 : Int) < ar.length)) = cntOk 20 ar.length tt.length) := hide rfl
  obtain ⟨la, lt⟩ := hL
  unfold maxLen at la lt
  have b0 := below_box w (o8 20 id n ty pl ao to ar.length tt.length ca ct nm)
  have H0 := hide (heap_alloc_new w (o8 20 id n ty pl ao to ar.length tt.length ca ct nm))
  have B0 := hide b0
  have hz0 : (w.alloc (o8 20 id n ty pl ao to ar.length tt.length ca ct nm)).heap.size > w.heap.size := by simp
  clear b0
  go_enter Tryz.func48, Tryz.ntmps48
  go_upto_region 1 with fail
  show Code.wp _ _ _ _ (w.alloc (o8 20 id n ty pl ao to ar.length tt.length ca ct nm))
  generalize w.alloc (o8 20 id n ty pl ao to ar.length tt.length ca ct nm) = W at *
  obtain ⟨c0, c1, c2, c3, c4, c5, c6, c7⟩ := box8 H0.out
  generalize hA : ar.length = A at *
  generalize hT : tt.length = T at *
  have HA := hide hA
  have HT := hide hT
  clear hA hT
  go_wp2_with fail
  all_goals
    go_ret
    exact ⟨L5.ret_bool (by first | exact HB.out | (rw [<- HB.out, Bool.eq_iff_iff]; simp; done) | (rw [<- HB.out, Bool.eq_iff_iff]; simp; omega) | (rw [HA.out, HT.out]; exact HB.out) | (rw [HA.out, HT.out, <- HB.out, Bool.eq_iff_iff]; simp; done) | (rw [HA.out, HT.out, <- HB.out, Bool.eq_iff_iff]; simp; omega)), B0.out⟩
theorem rcounted21 (id n ty pl : Int) (ar tt : List Int) (nm : List UInt8) (ao to : Option Addr) (ca ct : Nat) (w : World) (hL : ar.length <= maxLen /\ tt.length <= maxLen) : Calls Tryz.prog 48 #[.agg #[.int .i64 21, .int .i64 id, .int .i64 n, .int .i64 ty, .slice ao ar.length ca, .slice to tt.length ct, .string (bs nm), .int .i64 pl]] w fun e w' => e = .returned (.bool (cntOk 21 ar.length tt.length)) /\ Below w.heap.size w w' := by
  have HB : Hid ((decide ((tt.length : Int) = 0)) = cntOk 21 ar.length tt.length) := hide rfl
  obtain ⟨la, lt⟩ := hL
  unfold maxLen at la lt
  have b0 := below_box w (o8 21 id n ty pl ao to ar.length tt.length ca ct nm)
  have H0 := hide (heap_alloc_new w (o8 21 id n ty pl ao to ar.length tt.length ca ct nm))
  have B0 := hide b0
  have hz0 : (w.alloc (o8 21 id n ty pl ao to ar.length tt.length ca ct nm)).heap.size > w.heap.size := by simp
  clear b0
  go_enter Tryz.func48, Tryz.ntmps48
  go_upto_region 1 with fail
  show Code.wp _ _ _ _ (w.alloc (o8 21 id n ty pl ao to ar.length tt.length ca ct nm))
  generalize w.alloc (o8 21 id n ty pl ao to ar.length tt.length ca ct nm) = W at *
  obtain ⟨c0, c1, c2, c3, c4, c5, c6, c7⟩ := box8 H0.out
  generalize hA : ar.length = A at *
  generalize hT : tt.length = T at *
  have HA := hide hA
  have HT := hide hT
  clear hA hT
  go_wp2_with fail
  all_goals
    go_ret
    exact ⟨L5.ret_bool (by first | exact HB.out | (rw [<- HB.out, Bool.eq_iff_iff]; simp; done) | (rw [<- HB.out, Bool.eq_iff_iff]; simp; omega) | (rw [HA.out, HT.out]; exact HB.out) | (rw [HA.out, HT.out, <- HB.out, Bool.eq_iff_iff]; simp; done) | (rw [HA.out, HT.out, <- HB.out, Bool.eq_iff_iff]; simp; omega)), B0.out⟩
theorem rcounted24 (id n ty pl : Int) (ar tt : List Int) (nm : List UInt8) (ao to : Option Addr) (ca ct : Nat) (w : World) (hL : ar.length <= maxLen /\ tt.length <= maxLen) : Calls Tryz.prog 48 #[.agg #[.int .i64 24, .int .i64 id, .int .i64 n, .int .i64 ty, .slice ao ar.length ca, .slice to tt.length ct, .string (bs nm), .int .i64 pl]] w fun e w' => e = .returned (.bool (cntOk 24 ar.length tt.length)) /\ Below w.heap.size w w' := by
  have HB : Hid ((decide ((ar.length : Int) = 1) && decide ((tt.length : Int) = 0)) = cntOk 24 ar.length tt.length) := hide rfl
  obtain ⟨la, lt⟩ := hL
  unfold maxLen at la lt
  have b0 := below_box w (o8 24 id n ty pl ao to ar.length tt.length ca ct nm)
  have H0 := hide (heap_alloc_new w (o8 24 id n ty pl ao to ar.length tt.length ca ct nm))
  have B0 := hide b0
  have hz0 : (w.alloc (o8 24 id n ty pl ao to ar.length tt.length ca ct nm)).heap.size > w.heap.size := by simp
  clear b0
  go_enter Tryz.func48, Tryz.ntmps48
  go_upto_region 1 with fail
  show Code.wp _ _ _ _ (w.alloc (o8 24 id n ty pl ao to ar.length tt.length ca ct nm))
  generalize w.alloc (o8 24 id n ty pl ao to ar.length tt.length ca ct nm) = W at *
  obtain ⟨c0, c1, c2, c3, c4, c5, c6, c7⟩ := box8 H0.out
  generalize hA : ar.length = A at *
  generalize hT : tt.length = T at *
  have HA := hide hA
  have HT := hide hT
  clear hA hT
  go_wp2_with fail
  all_goals
    go_ret
    exact ⟨L5.ret_bool (by first | exact HB.out | (rw [<- HB.out, Bool.eq_iff_iff]; simp; done) | (rw [<- HB.out, Bool.eq_iff_iff]; simp; omega) | (rw [HA.out, HT.out]; exact HB.out) | (rw [HA.out, HT.out, <- HB.out, Bool.eq_iff_iff]; simp; done) | (rw [HA.out, HT.out, <- HB.out, Bool.eq_iff_iff]; simp; omega)), B0.out⟩
theorem rcounted26 (id n ty pl : Int) (ar tt : List Int) (nm : List UInt8) (ao to : Option Addr) (ca ct : Nat) (w : World) (hL : ar.length <= maxLen /\ tt.length <= maxLen) : Calls Tryz.prog 48 #[.agg #[.int .i64 26, .int .i64 id, .int .i64 n, .int .i64 ty, .slice ao ar.length ca, .slice to tt.length ct, .string (bs nm), .int .i64 pl]] w fun e w' => e = .returned (.bool (cntOk 26 ar.length tt.length)) /\ Below w.heap.size w w' := by
  have HB : Hid ((decide ((ar.length : Int) = 0) && decide ((tt.length : Int) = 1)) = cntOk 26 ar.length tt.length) := hide rfl
  obtain ⟨la, lt⟩ := hL
  unfold maxLen at la lt
  have b0 := below_box w (o8 26 id n ty pl ao to ar.length tt.length ca ct nm)
  have H0 := hide (heap_alloc_new w (o8 26 id n ty pl ao to ar.length tt.length ca ct nm))
  have B0 := hide b0
  have hz0 : (w.alloc (o8 26 id n ty pl ao to ar.length tt.length ca ct nm)).heap.size > w.heap.size := by simp
  clear b0
  go_enter Tryz.func48, Tryz.ntmps48
  go_upto_region 1 with fail
  show Code.wp _ _ _ _ (w.alloc (o8 26 id n ty pl ao to ar.length tt.length ca ct nm))
  generalize w.alloc (o8 26 id n ty pl ao to ar.length tt.length ca ct nm) = W at *
  obtain ⟨c0, c1, c2, c3, c4, c5, c6, c7⟩ := box8 H0.out
  generalize hA : ar.length = A at *
  generalize hT : tt.length = T at *
  have HA := hide hA
  have HT := hide hT
  clear hA hT
  go_wp2_with fail
  all_goals
    go_ret
    exact ⟨L5.ret_bool (by first | exact HB.out | (rw [<- HB.out, Bool.eq_iff_iff]; simp; done) | (rw [<- HB.out, Bool.eq_iff_iff]; simp; omega) | (rw [HA.out, HT.out]; exact HB.out) | (rw [HA.out, HT.out, <- HB.out, Bool.eq_iff_iff]; simp; done) | (rw [HA.out, HT.out, <- HB.out, Bool.eq_iff_iff]; simp; omega)), B0.out⟩
theorem rcounted27 (id n ty pl : Int) (ar tt : List Int) (nm : List UInt8) (ao to : Option Addr) (ca ct : Nat) (w : World) (hL : ar.length <= maxLen /\ tt.length <= maxLen) : Calls Tryz.prog 48 #[.agg #[.int .i64 27, .int .i64 id, .int .i64 n, .int .i64 ty, .slice ao ar.length ca, .slice to tt.length ct, .string (bs nm), .int .i64 pl]] w fun e w' => e = .returned (.bool (cntOk 27 ar.length tt.length)) /\ Below w.heap.size w w' := by
  have HB : Hid ((decide ((ar.length : Int) = 1) && decide ((tt.length : Int) = 2)) = cntOk 27 ar.length tt.length) := hide rfl
  obtain ⟨la, lt⟩ := hL
  unfold maxLen at la lt
  have b0 := below_box w (o8 27 id n ty pl ao to ar.length tt.length ca ct nm)
  have H0 := hide (heap_alloc_new w (o8 27 id n ty pl ao to ar.length tt.length ca ct nm))
  have B0 := hide b0
  have hz0 : (w.alloc (o8 27 id n ty pl ao to ar.length tt.length ca ct nm)).heap.size > w.heap.size := by simp
  clear b0
  go_enter Tryz.func48, Tryz.ntmps48
  go_upto_region 1 with fail
  show Code.wp _ _ _ _ (w.alloc (o8 27 id n ty pl ao to ar.length tt.length ca ct nm))
  generalize w.alloc (o8 27 id n ty pl ao to ar.length tt.length ca ct nm) = W at *
  obtain ⟨c0, c1, c2, c3, c4, c5, c6, c7⟩ := box8 H0.out
  generalize hA : ar.length = A at *
  generalize hT : tt.length = T at *
  have HA := hide hA
  have HT := hide hT
  clear hA hT
  go_wp2_with fail
  all_goals
    go_ret
    exact ⟨L5.ret_bool (by first | exact HB.out | (rw [<- HB.out, Bool.eq_iff_iff]; simp; done) | (rw [<- HB.out, Bool.eq_iff_iff]; simp; omega) | (rw [HA.out, HT.out]; exact HB.out) | (rw [HA.out, HT.out, <- HB.out, Bool.eq_iff_iff]; simp; done) | (rw [HA.out, HT.out, <- HB.out, Bool.eq_iff_iff]; simp; omega)), B0.out⟩
theorem rcounted28 (id n ty pl : Int) (ar tt : List Int) (nm : List UInt8) (ao to : Option Addr) (ca ct : Nat) (w : World) (hL : ar.length <= maxLen /\ tt.length <= maxLen) : Calls Tryz.prog 48 #[.agg #[.int .i64 28, .int .i64 id, .int .i64 n, .int .i64 ty, .slice ao ar.length ca, .slice to tt.length ct, .string (bs nm), .int .i64 pl]] w fun e w' => e = .returned (.bool (cntOk 28 ar.length tt.length)) /\ Below w.heap.size w w' := by
  have HB : Hid ((decide ((ar.length : Int) <= 1) && decide ((tt.length : Int) = 0)) = cntOk 28 ar.length tt.length) := hide rfl
  obtain ⟨la, lt⟩ := hL
  unfold maxLen at la lt
  have b0 := below_box w (o8 28 id n ty pl ao to ar.length tt.length ca ct nm)
  have H0 := hide (heap_alloc_new w (o8 28 id n ty pl ao to ar.length tt.length ca ct nm))
  have B0 := hide b0
  have hz0 : (w.alloc (o8 28 id n ty pl ao to ar.length tt.length ca ct nm)).heap.size > w.heap.size := by simp
  clear b0
  go_enter Tryz.func48, Tryz.ntmps48
  go_upto_region 1 with fail
  show Code.wp _ _ _ _ (w.alloc (o8 28 id n ty pl ao to ar.length tt.length ca ct nm))
  generalize w.alloc (o8 28 id n ty pl ao to ar.length tt.length ca ct nm) = W at *
  obtain ⟨c0, c1, c2, c3, c4, c5, c6, c7⟩ := box8 H0.out
  generalize hA : ar.length = A at *
  generalize hT : tt.length = T at *
  have HA := hide hA
  have HT := hide hT
  clear hA hT
  go_wp2_with fail
  all_goals
    go_ret
    exact ⟨L5.ret_bool (by first | exact HB.out | (rw [<- HB.out, Bool.eq_iff_iff]; simp; done) | (rw [<- HB.out, Bool.eq_iff_iff]; simp; omega) | (rw [HA.out, HT.out]; exact HB.out) | (rw [HA.out, HT.out, <- HB.out, Bool.eq_iff_iff]; simp; done) | (rw [HA.out, HT.out, <- HB.out, Bool.eq_iff_iff]; simp; omega)), B0.out⟩
theorem rcounted_else (k : Int) (hk : k ≠ 20 /\ k ≠ 21 /\ k ≠ 24 /\ k ≠ 26 /\ k ≠ 27 /\ k ≠ 28) (id n ty pl : Int) (ar tt : List Int) (nm : List UInt8) (ao to : Option Addr) (ca ct : Nat) (w : World) (hL : ar.length <= maxLen /\ tt.length <= maxLen) : Calls Tryz.prog 48 #[.agg #[.int .i64 k, .int .i64 id, .int .i64 n, .int .i64 ty, .slice ao ar.length ca, .slice to tt.length ct, .string (bs nm), .int .i64 pl]] w fun e w' => e = .returned (.bool (cntOk k ar.length tt.length)) /\ Below w.heap.size w w' := by
  have HB : Hid ((decide ((ar.length : Int) = tkN k) && decide ((tt.length : Int) = 0)) = cntOk k ar.length tt.length) := hide (by unfold cntOk; rw [if_neg (by omega), if_neg (by omega), if_neg (by omega), if_neg (by omega), if_neg (by omega), if_neg (by omega)])
  obtain ⟨la, lt⟩ := hL
  unfold maxLen at la lt
  obtain ⟨n20, n21, n24, n26, n27, n28⟩ := hk
  replace n20 : (k == 20) = false := by simpa using n20
  replace n21 : (k == 21) = false := by simpa using n21
  replace n24 : (k == 24) = false := by simpa using n24
  replace n26 : (k == 26) = false := by simpa using n26
  replace n27 : (k == 27) = false := by simpa using n27
  replace n28 : (k == 28) = false := by simpa using n28
  have b0 := below_box w (o8 k id n ty pl ao to ar.length tt.length ca ct nm)
  have H0 := hide (heap_alloc_new w (o8 k id n ty pl ao to ar.length tt.length ca ct nm))
  have B0 := hide b0
  have hz0 : (w.alloc (o8 k id n ty pl ao to ar.length tt.length ca ct nm)).heap.size > w.heap.size := by simp
  clear b0
  go_enter Tryz.func48, Tryz.ntmps48
  go_upto_region 1 with fail
  show Code.wp _ _ _ _ (w.alloc (o8 k id n ty pl ao to ar.length tt.length ca ct nm))
  generalize w.alloc (o8 k id n ty pl ao to ar.length tt.length ca ct nm) = W at *
  obtain ⟨c0, c1, c2, c3, c4, c5, c6, c7⟩ := box8 H0.out
  generalize hA : ar.length = A at *
  generalize hT : tt.length = T at *
  have HA := hide hA
  have HT := hide hT
  clear hA hT
  go_wp2_with fail
  refine (L5.refTakes_any k W).mono ?_; rintro e w1 ⟨ao1, cap1, rfl, s1, b1⟩
  have HTk : Hid ((L5.takes (L5.num k)).length = tkN k) := hide rfl
  have htl : tkN k <= 2 := by unfold tkN L5.takes; exact List.length_filter_le _ _
  have B1 := hide b1
  rw [HTk.out]
  clear s1 b1
  generalize tkN k = tk at *
  go_wp2_with fail
  all_goals
    go_ret
    exact ⟨L5.ret_bool (by first | exact HB.out | (rw [<- HB.out, Bool.eq_iff_iff]; simp; done) | (rw [<- HB.out, Bool.eq_iff_iff]; simp; omega) | (rw [HA.out, HT.out]; exact HB.out) | (rw [HA.out, HT.out, <- HB.out, Bool.eq_iff_iff]; simp; done) | (rw [HA.out, HT.out, <- HB.out, Bool.eq_iff_iff]; simp; omega)), below_step B0.out B1.out⟩
theorem rcounted_any (k : Int) (id n ty pl : Int) (ar tt : List Int) (nm : List UInt8) (ao to : Option Addr) (ca ct : Nat) (w : World) (hL : ar.length <= maxLen /\ tt.length <= maxLen) : Calls Tryz.prog 48 #[.agg #[.int .i64 k, .int .i64 id, .int .i64 n, .int .i64 ty, .slice ao ar.length ca, .slice to tt.length ct, .string (bs nm), .int .i64 pl]] w fun e w' => e = .returned (.bool (cntOk k ar.length tt.length)) /\ Below w.heap.size w w' := by
  by_cases h20 : k = 20
  . subst h20; exact rcounted20 id n ty pl ar tt nm ao to ca ct w hL
  by_cases h21 : k = 21
  . subst h21; exact rcounted21 id n ty pl ar tt nm ao to ca ct w hL
  by_cases h24 : k = 24
  . subst h24; exact rcounted24 id n ty pl ar tt nm ao to ca ct w hL
  by_cases h26 : k = 26
  . subst h26; exact rcounted26 id n ty pl ar tt nm ao to ca ct w hL
  by_cases h27 : k = 27
  . subst h27; exact rcounted27 id n ty pl ar tt nm ao to ca ct w hL
  by_cases h28 : k = 28
  . subst h28; exact rcounted28 id n ty pl ar tt nm ao to ca ct w hL
  exact rcounted_else k ⟨h20, h21, h24, h26, h27, h28⟩ id n ty pl ar tt nm ao to ca ct w hL
end Go.Proofs.YtahhbckccdigoaaGreatDoor
