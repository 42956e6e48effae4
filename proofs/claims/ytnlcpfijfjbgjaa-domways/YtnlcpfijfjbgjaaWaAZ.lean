/- Layer 9, the program: whether a block stands ahead of another one; the blocks of which one is the last one ahead. Layer 9, the program: a list from its end on, as it is handed on. -/
import Derived.Test.YtnlcpfijfjbgjaaWaAY
import Derived.RangeFuncBox
import Derived.RangeFuncLeaves
import Derived.Shelf.Abstract
import Derived.WalkKit
import Derived.OwnWalkIn
import Derived.TacticsInMore
import Derived.LoopNIn
import Derived.LoopIn
namespace Go.Proofs.Ytnlcpfijfjbgjaa
open Go Go.RowKit
open G (Tok Er Ins Fun)
theorem stand_yes {ll : List (List Int)} {b : Int} (h : All ll b) : standB ll b = true := by unfold standB; simp [h]
theorem stand_no {ll : List (List Int)} {b : Int} (h : ¬ All ll b) : standB ll b = false := by unfold standB; simp [h]
theorem ahd_up {ll : List (List Int)} (hg : Gr ll) {a b : Int} (hb : All ll b) (hd : depthB ll a < depthB ll b) : 0 ≤ upB ll b ∧ upB ll b < ll.length ∧ All ll (upB ll b) ∧ depthB ll (upB ll b) + 1 = depthB ll b ∧ (Ahd ll a (upB ll b) ↔ Ahd ll a b) := by
  have h0 : b ≠ 0 := by rintro rfl; rw [depth_first hg] at hd; omega
  obtain ⟨c, hc⟩ := IsUp.ex hg hb h0
  rw [upB_eq hg hc]
  have hn := hc.2.1.1.num hg
  refine ⟨hn.1, hn.2, hc.2.1.1, hc.2.2, fun h => h.trans hc.2.1, fun h => hc.last hg h ?_⟩
  rintro rfl
  omega
theorem ahd_eq {ll : List (List Int)} (hg : Gr ll) {a b : Int} (hb : All ll b) (hd : ¬ depthB ll a < depthB ll b) : Ahd ll a b ↔ a = b := by
  constructor
  · intro h
    refine Classical.byContradiction fun e => hd (depth_lt hg h e)
  · rintro rfl
    exact Ahd.refl hb
set_option maxHeartbeats 4000000 in
set_option maxRecDepth 20000 in
theorem aheadT_any {ll : List (List Int)} {t ub uo db dd uc dc : Nat} (hg : Gr ll) (a b : Int) (w : World) (h : TreeC w ll ll.length t ub uo db dd uc dc) :
    Calls Try.prog 10 #[.pointer (some ⟨t, 0, none⟩), .int .i64 a, .int .i64 b] w fun e w' => e = .returned (.bool (aheadB ll a b)) ∧ Below w.heap.size w w' := by
  have HA := hide (stands_any hg a w h)
  have HB := hide (stands_any hg b w h)
  obtain ⟨r, HR⟩ : ∃ r, Hid (aheadB ll a b = r) := ⟨_, hide rfl⟩
  rw [HR.out]
  by_cases ha : All ll a
  · have e1 : standB ll a = true := stand_yes ha
    rw [e1] at HA
    by_cases hb : All ll b
    · have e2 : standB ll b = true := stand_yes hb
      rw [e2] at HB
      obtain ⟨tl, ul, dl, c1, c2, c3, c4⟩ := h
      obtain ⟨a0, a1⟩ := ha.num hg
      obtain ⟨A, rfl⟩ : ∃ A : Nat, a = (A : Int) := ⟨a.toNat, by omega⟩
      have hAl : A < ll.length := by omega
      have hAI : (A : Int) < ll.length := by omega
      have HU := hide (fun (x : Int) (hx : All ll x) (hd : depthB ll (A : Int) < depthB ll x) => ahd_up hg hx hd)
      have HQ := hide (fun (x : Int) (hx : All ll x) (hd : ¬ depthB ll (A : Int) < depthB ll x) => ahd_eq hg hx hd)
      have HNum := hide (fun (x : Int) (hx : All ll x) => hx.num hg)
      have HRi : Hid (r = true ↔ Ahd ll A b) := hide (by rw [← HR.out]; exact ahead_iff hg _ _)
      have HMx := hide (fun x => depth_max ll x)
      have KB := hide hb
      have C3 := hide c3
      have C4 := hide c4
      clear hg ha hb e1 e2 a0 a1 HR c3 c4
      go_enter Try.func10, Try.ntmps10
      go_wp2_with fail
      refine HA.out.mono ?_; rintro e w1 ⟨rfl, rfl⟩
      clear HA
      go_wp2_with fail
      refine HB.out.mono ?_; rintro e w2 ⟨rfl, rfl⟩
      clear HB
      go_wp2_with fail
      go_loopw [2] (fun bv wr => ∃ B : Nat, bv = .int .i64 B ∧ Hid (All ll B) ∧ Hid (Ahd ll A B ↔ Ahd ll A b) ∧ Hid (Below w2.heap.size w2 wr)) (fun bv _ => depthB ll (intOf bv))
      case atStart =>
        obtain ⟨b0, b1⟩ := HNum.out b KB.out
        refine ⟨b.toNat, by simp; omega, ?_, ?_, hide (Below.refl _ _)⟩
        · have e : ((b.toNat : Nat) : Int) = b := by omega
          rw [e]; exact KB
        · have e : ((b.toNat : Nat) : Int) = b := by omega
          rw [e]; exact hide Iff.rfl
      case round =>
        clear KB
        obtain ⟨B, rfl, KB, HI, HW⟩ := hrel
        have hBl : B < ll.length := by have := HNum.out _ KB.out; omega
        have hBI : (B : Int) < ll.length := by omega
        have hB2 := fun x => below_step HW.out (L5.grewTo_below wr x)
        have k1 := fun x => ((hB2 x).cell (p := ⟨t, 1, none⟩) tl).trans c2
        have k0 := fun x => ((hB2 x).cell (p := ⟨t, 0, none⟩) tl).trans c1
        have k2 := fun x => ((hB2 x).cell (p := ⟨db, dd + B, none⟩) dl).trans (C4.out B hBl)
        have k3 := fun x => ((hB2 x).cell (p := ⟨db, dd + A, none⟩) dl).trans (C4.out A hAl)
        have k4 := fun x => ((hB2 x).cell (p := ⟨ub, uo + B, none⟩) ul).trans (C3.out B hBl)
        replace hB2 := hide hB2
        by_cases hd : depthB ll (A : Int) < depthB ll (B : Int)
        · have hdI : ((depthB ll (A : Int) : Nat) : Int) < ((depthB ll (B : Int) : Nat) : Int) := by omega
          obtain ⟨u0, u1, u2, u3, u4⟩ := HU.out _ KB.out hd
          obtain ⟨U, hU⟩ : ∃ U : Nat, upB ll (B : Int) = (U : Int) := ⟨(upB ll (B : Int)).toNat, by omega⟩
          simp only [hU] at k4 u0 u1 u2 u3 u4
          have KU := hide u2
          have HU4 := hide (u4.trans HI.out)
          obtain ⟨dA, HdA⟩ : ∃ d, Hid (depthB ll (A : Int) = d) := ⟨_, hide rfl⟩
          obtain ⟨dB, HdB⟩ : ∃ d, Hid (depthB ll (B : Int) = d) := ⟨_, hide rfl⟩
          have hu3 := hide u3
          simp only [HdA.out] at k3 hdI
          simp only [HdB.out] at k2 hdI
          clear hd u0 u1 u2 u3 u4 hU
          go_wp2_with fail
          refine L5.region_grew (by kernel_rfl) (by kernel_rfl) ?_
          repeat (go_big_quiet_step (fail))
          refine wpQuiet_nil ?_
          rintro _ ⟨x, rfl⟩
          go_wp2_with fail
          go_roundw
          case rel => exact ⟨U, rfl, KU, HU4, hide (hB2.out x)⟩
          case measure => have e1 := HdB.out; have e2 := hu3.out; simp [intOf]; omega
        · have hdI : ¬ ((depthB ll (A : Int) : Nat) : Int) < ((depthB ll (B : Int) : Nat) : Int) := by omega
          have hq := HQ.out _ KB.out hd
          have HE : Hid (decide ((A : Int) = (B : Int)) = r) := hide (by
            rw [Bool.eq_iff_iff, decide_eq_true_eq, HRi.out, ← HI.out]
            exact hq.symm)
          obtain ⟨dA, HdA⟩ : ∃ d, Hid (depthB ll (A : Int) = d) := ⟨_, hide rfl⟩
          obtain ⟨dB, HdB⟩ : ∃ d, Hid (depthB ll (B : Int) = d) := ⟨_, hide rfl⟩
          simp only [HdA.out] at k3 hdI
          simp only [HdB.out] at k2 hdI
          clear hd hq
          go_wp2_with fail
          refine L5.region_grew (by kernel_rfl) (by kernel_rfl) ?_
          repeat (go_big_quiet_step (fail))
          refine wpQuiet_nil ?_
          rintro _ ⟨x, rfl⟩
          go_wp2_with fail
          go_ret
          refine ⟨?_, hB2.out x⟩
          rw [← HE.out]
          show Ending.returned (.bool ((A : Int) == (B : Int))) = _
          rfl
    · have e2 : standB ll b = false := stand_no hb
      rw [e2] at HB
      have HE : Hid (r = false) := hide (by rw [← HR.out, ahead_no hg]; exact fun h => hb h.2.1)
      rw [HE.out]
      clear hg ha hb e1 e2 h HR
      go_enter Try.func10, Try.ntmps10
      go_wp2_with fail
      refine HA.out.mono ?_; rintro e w1 ⟨rfl, rfl⟩
      clear HA
      go_wp2_with fail
      refine HB.out.mono ?_; rintro e w2 ⟨rfl, rfl⟩
      clear HB
      go_wp2_with fail
      go_ret
      exact ⟨rfl, Below.refl _ _⟩
  · have e1 : standB ll a = false := stand_no ha
    rw [e1] at HA
    have HE : Hid (r = false) := hide (by rw [← HR.out, ahead_no hg]; exact fun h => ha h.1)
    rw [HE.out]
    clear hg ha e1 h HR HB
    go_enter Try.func10, Try.ntmps10
    go_wp2_with fail
    refine HA.out.mono ?_; rintro e w1 ⟨rfl, rfl⟩
    clear HA
    go_wp2_with fail
    go_ret
    exact ⟨rfl, Below.refl _ _⟩
theorem kids_none {ll : List (List Int)} (hg : Gr ll) {b : Int} (h : ¬ (0 ≤ b ∧ b < ll.length)) : kidsB ll b = [] := by
  cases e : kidsB ll b with
  | nil => rfl
  | cons m l =>
    exfalso
    obtain ⟨h0, _, _, h3⟩ := mem_kids (ll := ll) (b := b) (m := m) (by rw [e]; simp)
    subst h3
    exact h ((upB_is hg h0).2.1.1.num hg)
set_option maxHeartbeats 4000000 in
set_option maxRecDepth 20000 in
theorem kidsT_any {ll : List (List Int)} {t ub uo db dd uc dc : Nat} (hg : Gr ll) (hl : ll.length ≤ 1000000) (b : Int) (w : World) (h : TreeC w ll ll.length t ub uo db dd uc dc) :
    Calls Try.prog 17 #[.pointer (some ⟨t, 0, none⟩), .int .i64 b] w fun e w' => ∃ u, e = .returned u ∧ Grw w (kidsB ll b) u w' := by
  obtain ⟨i0, hi0, hz0, hz1, hz2⟩ := info_parts Try.info3
  have HC := hide (there_tree b w h)
  by_cases hk : 0 ≤ b ∧ b < ll.length
  · rw [decide_eq_true hk] at HC
    obtain ⟨tl, ul, _, c1, _, c2, _⟩ := h
    have C2 := hide c2
    have hb0 := hk.1
    clear c2 hk hg
    go_enter Try.func17, Try.ntmps17
    go_wp2_with fail
    refine HC.out.mono ?_; rintro e w1 ⟨rfl, rfl⟩
    clear HC
    go_wp2_with fail
    go_loopw [5, 17] (fun nv i wr => ∃ K : Nat, K ≤ ll.length ∧ i = .int .i64 K ∧ Hid (Grw w1 (kidsTo ll b K) nv wr)) (fun _ i _ => ll.length - (intOf i).toNat)
    case atStart => exact ⟨0, Nat.zero_le _, rfl, hide (Grw.start _)⟩
    case round =>
      obtain ⟨K, hK, rfl, HG⟩ := hrel
      have hkl := kidsTo_len ll b K
      obtain ⟨mo, mc, rfl, _, _⟩ := HG.out.slice
      by_cases hkt : K < ll.length
      · have hkI : (K : Int) < ll.length := by omega
        have k2 := (HG.out.2.cell (p := ⟨ub, uo + K, none⟩) ul).trans (C2.out K hkt)
        by_cases hu : upB ll K = b
        · have hbe : (upB ll K == b) = true := beq_iff_eq.2 hu
          have HA := hide (kidsTo_yes hb0 hu)
          have hWs := HG.out.2.size
          replace hu := hide hu
          go_wp2_with (at_builtin; refine wpList_append_own _ rfl (.tmp 25) (.tmp 27) 22 rfl w1.heap.size 3 i0 _ 1 8 Try.underlying22 hi0 hz0 hz1 hz2 rfl (by decide) _ _ _ rfl (HG.out.1.alloc _) ⟨wr.heap.size, 0, none⟩ 1 1 [.int .i64 K] rfl rfl one_cell one_one (by unfold maxLen; omega) (by omega) (by simp; omega) ?_; intro v2 w2 own2 grow2 _; refine Hid.out ?_)
          have HE : Hid (Grw w1 (kidsTo ll b (K + 1)) v2 w2) := hide (by rw [HA.out]; exact HG.out.step own2 grow2)
          clear own2 grow2
          refine hide ?_
          go_wp2_with fail
          go_roundw
          case rel => exact ⟨K + 1, by omega, by go_num, HE⟩
          case measure => simp [intOf]; omega
        · have hbe : (upB ll K == b) = false := beq_eq_false_iff_ne.2 hu
          have HE : Hid (Grw w1 (kidsTo ll b (K + 1)) _ wr) := hide (by rw [kidsTo_no (fun h => hu h.2)]; exact HG.out)
          replace hu := hide hu
          go_wp2_with fail
          go_roundw
          case rel => exact ⟨K + 1, by omega, by go_num, HE⟩
          case measure => simp [intOf]; omega
      · obtain rfl : K = ll.length := by omega
        go_wp2_with fail
        go_ret
        exact ⟨_, rfl, HG.out⟩
  · rw [decide_eq_false hk] at HC
    rw [kids_none hg hk]
    clear h hk hg
    go_enter Try.func17, Try.ntmps17
    go_wp2_with fail
    refine HC.out.mono ?_; rintro e w1 ⟨rfl, rfl⟩
    clear HC
    go_wp2_with fail
    go_ret
    exact ⟨_, rfl, Grw.start _⟩
end Go.Proofs.Ytnlcpfijfjbgjaa
namespace Go.Proofs.Ytnlcpfijfjbgjaa
open Go Go.RowKit Go.Shelf
open G (Tok Er Ins Fun)
/-- A block's number. -/
def Blk (N : Nat) : Type := { b : Nat // b < N }
/-- What a round keeps: what lay ahead, and the box that the iterator reads. -/
def KpB (n0 Bs : Nat) (W W' : World) : Prop := Below n0 W W' ∧ W'.heap[Bs]? = W.heap[Bs]?
theorem KpB.trans {n0 Bs : Nat} {A B C : World} (h : KpB n0 Bs A B) (k : KpB n0 Bs B C) : KpB n0 Bs A C := ⟨h.1.trans k.1, k.2.trans h.2⟩
theorem KpB.refl (n0 Bs : Nat) (W : World) : KpB n0 Bs W W := ⟨Below.refl _ _, rfl⟩
def encB (ll : List (List Int)) (x : Blk ll.length) : Array Value := #[.int .i64 ((x.1 : Nat) : Int), .int .i64 (upB ll x.1)]
theorem drop_rev {N M : Nat} (h : M < N) : ((List.range N).drop M).reverse = ((List.range N).drop (M + 1)).reverse ++ [M] := by
  rw [List.drop_eq_getElem_cons (by simpa using h), List.reverse_cons]
  simp
set_option maxRecDepth 100000 in
set_option maxHeartbeats 2000000 in
theorem back1_in (F : Fence) (n : Nat) (h54 : F.fn 54) (hro : F.round = none) (hn : 1 ≤ n) (ll : List (List Int)) (hN : ll.length ≤ 1000000) (l Bs n0 b off cap : Nat) (hb : b < n0) (J Jx : List (Blk ll.length) → World → Prop)
    (hY : ∀ pre (x : Blk ll.length) W, J pre W → pre.length < ll.length → YieldAt F (n - 1) Try.prog l (encB ll x) W fun e W' =>
      (e = .returned (.bool true) ∧ J (pre ++ [x]) W' ∧ KpB n0 Bs W W') ∨ (e = .returned (.bool false) ∧ Jx (pre ++ [x]) W'))
    (W : World) (hBs : Boxed W Bs 22 (.slice (some ⟨b, off, none⟩) ll.length cap)) (hc : ∀ j, j < ll.length → W.cell? ⟨b, off + j, none⟩ = some (.int .i64 (upB ll j))) (h0 : J [] W) :
    CallsIn F n Try.prog 54 #[.func (.yield l) #[] #[], .pointer (some ⟨Bs, 0, none⟩)] W fun e W' => (∃ v, e = .returned v) ∧
      ((∃ ys, ys.map (·.1) = (List.range ll.length).reverse ∧ J ys W') ∨ (∃ pre, True ∧ Jx pre W')) := by
  have c0 := hBs.cell
  refine callsIn_of_wp Try.func54 rfl h54 ?_ hro
  simp only [Try.ntmps54, List.size_toArray, List.length_cons, List.length_nil, Nat.reduceAdd, Nat.reduceSub, Array.replicate_succ, Array.replicate_zero, List.push_toArray, List.append_toArray, List.nil_append, List.cons_append]
  gi_wp2
  gi_loopw [3] (fun i wr => ∃ (K : Nat) (pre : List (Blk ll.length)), K ≤ ll.length ∧ i = .int .i64 ((K : Int) - 1) ∧ pre.map (·.1) = ((List.range ll.length).drop K).reverse ∧ J pre wr ∧ KpB n0 Bs W wr) (fun i _ => (intOf i + 1).toNat)
  case atStart => exact ⟨ll.length, [], Nat.le_refl _, rfl, by simp, h0, KpB.refl _ _ _⟩
  case round =>
    obtain ⟨K, pre, hK, rfl, hpre, hJs, hnx⟩ := hrel
    have c1 : wr.cell? ⟨Bs, 0, none⟩ = some (.slice (some ⟨b, off, none⟩) ll.length cap) := (show Boxed wr Bs 22 _ from hnx.2.trans hBs).cell
    cases K with
    | zero =>
      gi_wp2
      go_end0
      exact ⟨⟨_, rfl⟩, .inl ⟨_, by simpa using hpre, hJs⟩⟩
    | succ M =>
      have hM : M < ll.length := by omega
      have hMI : (M : Int) < ll.length := by omega
      have e1 : ((M + 1 : Nat) : Int) - 1 = (M : Int) := by omega
      rw [e1]
      have hpl : pre.length < ll.length := by
        have := congrArg List.length hpre
        simp at this
        omega
      have hd := drop_rev hM
      have c2 : wr.cell? ⟨b, off + M, none⟩ = some (.int .i64 (upB ll M)) := (hnx.1.cell (p := ⟨b, off + M, none⟩) hb).trans (hc M hM)
      obtain ⟨fn, tmps, assign, body, hy, hR⟩ := hY pre ⟨M, hM⟩ wr hJs hpl
      dsimp only [encB] at hy
      clear e1
      gi_wp2
      refine hR.mono ?_
      rintro e W3 (⟨rfl, hJ3, hk3⟩ | ⟨rfl, hJx3⟩)
      · gi_wp2
        go_roundw
        case rel => exact ⟨M, _, by omega, by go_num, by rw [hd, ← hpre, List.map_append]; rfl, hJ3, hnx.trans hk3⟩
        case measure => simp [intOf]
      · gi_wp2
        refine bodyPost_ret (results_none rfl _ _ _) rfl ?_
        exact ⟨⟨_, rfl⟩, .inr ⟨_, trivial, hJx3⟩⟩
set_option maxHeartbeats 1000000 in
theorem back_in (F : Fence) (n : Nat) (h44 : F.fn 44) (hro : F.round = none) (a : Option Addr) (len cap : Nat) (w : World) :
    CallsIn F n Try.prog 44 #[.slice a len cap] w fun e w' => e = .returned (.func (.func 54) #[] #[.pointer (some ⟨w.heap.size, 0, none⟩)]) ∧ w' = w.alloc (.cells #[.slice a len cap] 22) := by
  refine callsIn_of_wp Try.func44 rfl h44 ?_ hro
  simp only [Try.ntmps44, List.size_toArray, List.length_cons, List.length_nil, Nat.reduceAdd, Nat.reduceSub, Array.replicate_succ, Array.replicate_zero, List.push_toArray, List.append_toArray, List.nil_append, List.cons_append]
  gi_wp2
  go_ret
  exact ⟨rfl, rfl⟩
theorem back_stops (F : Fence) (n : Nat) (h54 : F.fn 54) (hro : F.round = none) (hn : 1 ≤ n) (ll : List (List Int)) (hN : ll.length ≤ 1000000) (Bs n0 b off cap : Nat) (hb : b < n0) (w : World) (hn0 : n0 ≤ w.heap.size) (hBs : Boxed w Bs 22 (.slice (some ⟨b, off, none⟩) ll.length cap))
    (hc : ∀ j, j < ll.length → w.cell? ⟨b, off + j, none⟩ = some (.int .i64 (upB ll j))) :
    SeqStopsK F n Try.prog 54 #[.pointer (some ⟨Bs, 0, none⟩)] (encB ll) (KpB n0 Bs) (fun ys => ys.map (·.1) = (List.range ll.length).reverse) (fun _ => True) ll.length w := fun l J Jx W hW _ _ hY h0 =>
  back1_in F n h54 hro hn ll hN l Bs n0 b off cap hb J Jx hY W ((hW.block Bs hBs.lt).trans hBs) (fun j hj => (hW.cell (p := ⟨b, off + j, none⟩) (by show b < w.heap.size; omega)).trans (hc j hj)) h0
end Go.Proofs.Ytnlcpfijfjbgjaa
