/- Layer 10, the program: Inner: the loops' numbers, put in order by how many blocks they have. Layer 10, the program: Inner. Layer 10, the program: the edges of a function, and those by which a loop is entered. -/
import Derived.Test.YtmiplohoclckcaaGreatLtAJ
import Derived.Test.YtmiplohoclckcaaGreatLtAN
import Derived.Test.YtmiplohoclckcaaGreatLtAP
import Derived.Test.YtmiplohoclckcaaGreatLtBB
import Derived.Test.YtmiplohoclckcaaGreatLtBJ
namespace Go.Proofs.YtmiplohoclckcaaGreat
open Go Go.RowKit
open G (Tok Er Ins Fun)
/-- How two numbers compare. -/
def cmpI (a b : Nat) : Int := if a < b then -1 else if b < a then 1 else 0
theorem compare_any (a b : Nat) (w : World) : Calls Tryz.prog 34 #[.int .i64 a, .int .i64 b] w fun e w' => e = .returned (.int .i64 (cmpI a b)) ∧ w' = w := by
  have H1 := hide (fun (x : Int) => cnan_any x w)
  by_cases h : a < b
  · have hI : (a : Int) < b := by omega
    have HE : Hid (cmpI a b = -1) := hide (by unfold cmpI; rw [if_pos h])
    rw [HE.out]
    go_enter Tryz.func34, Tryz.ntmps34
    go_wp2_with fail
    refine (H1.out _).mono ?_; rintro e w1 ⟨rfl, rfl⟩
    go_wp2_with fail
    refine (H1.out _).mono ?_; rintro e w2 ⟨rfl, rfl⟩
    go_wp2_with fail
    go_ret
    exact ⟨rfl, rfl⟩
  · by_cases h2 : b < a
    · have hI : ¬ (a : Int) < b := by omega
      have hI2 : (b : Int) < a := by omega
      have HE : Hid (cmpI a b = 1) := hide (by unfold cmpI; rw [if_neg h, if_pos h2])
      rw [HE.out]
      go_enter Tryz.func34, Tryz.ntmps34
      go_wp2_with fail
      refine (H1.out _).mono ?_; rintro e w1 ⟨rfl, rfl⟩
      go_wp2_with fail
      refine (H1.out _).mono ?_; rintro e w2 ⟨rfl, rfl⟩
      go_wp2_with fail
      go_ret
      exact ⟨rfl, rfl⟩
    · have hI : ¬ (a : Int) < b := by omega
      have hI2 : ¬ (b : Int) < a := by omega
      have HE : Hid (cmpI a b = 0) := hide (by unfold cmpI; rw [if_neg h, if_neg h2])
      rw [HE.out]
      go_enter Tryz.func34, Tryz.ntmps34
      go_wp2_with fail
      refine (H1.out _).mono ?_; rintro e w1 ⟨rfl, rfl⟩
      go_wp2_with fail
      refine (H1.out _).mono ?_; rintro e w2 ⟨rfl, rfl⟩
      go_wp2_with fail
      go_ret
      exact ⟨rfl, rfl⟩
set_option maxHeartbeats 2000000 in
set_option maxRecDepth 20000 in
theorem inner1_any (l : List Lp) (a b : Nat) (ha : a < l.length) (hb : b < l.length) (v : Value) (q : Nat) (w : World) (hq : w.cell? ⟨q, 0, none⟩ = some v) (hql : q < w.heap.size) (hv : LoopsV w l v) :
    Calls Tryz.prog 33 #[.int .i64 a, .int .i64 b, .pointer (some ⟨q, 0, none⟩)] w fun e w' => e = .returned (.int .i64 (cmpI (nB l a) (nB l b))) ∧ Below w.heap.size w w' := by
  obtain ⟨ao, c, rfl, hc1, hc2, hv3⟩ := hv
  rcases hv3 with rfl | ⟨g, o, rfl, hc⟩
  · simp at ha
  have haI : (a : Int) < l.length := by omega
  have hbI : (b : Int) < l.length := by omega
  have hB2 := fun x => L5.grewTo_below w x
  obtain ⟨bo, bc, hgl, a0, a1, a2, a3⟩ := lp_cells (hc a _ (lpN_at ha))
  obtain ⟨bo2, bc2, _, d0, d1, d2, d3⟩ := lp_cells (hc b _ (lpN_at hb))
  have q1 := fun x => ((hB2 x).cell (p := ⟨q, 0, none⟩) hql).trans hq
  have c1 := fun x => ((hB2 x).cell (p := ⟨g, o + a * 4 + 1, none⟩) hgl).trans a1
  have e1 := fun x => ((hB2 x).cell (p := ⟨g, o + b * 4 + 1, none⟩) hgl).trans d1
  have HH := hide (fun x => compare_any (lpN l a).2.1.length (lpN l b).2.1.length (L5.grewTo w x))
  have HE : Hid (cmpI (nB l a) (nB l b) = cmpI (lpN l a).2.1.length (lpN l b).2.1.length) := hide rfl
  rw [HE.out]
  unfold maxLen at a3 d3
  clear a0 a1 a2 d0 d1 d2 hc hq HE
  generalize (lpN l a).2.1.length = na at *
  generalize (lpN l b).2.1.length = nb at *
  replace hB2 := hide hB2
  go_enter Tryz.func33, Tryz.ntmps33
  go_wp2_with fail
  refine L5.region_grew (by kernel_rfl) (by kernel_rfl) ?_
  repeat (go_big_quiet_step ((go_at_call 34; exact L5.calls_grew_same (HH.out _))))
  refine wpQuiet_nil ?_
  rintro _ ⟨x, rfl⟩
  go_wp2_with fail
  go_ret
  exact ⟨rfl, hB2.out x⟩
set_option maxHeartbeats 8000000 in
set_option maxRecDepth 20000 in
theorem isort_any (l : List Lp) (v : Value) (q g c : Nat) (W w : World) (hl : l.length ≤ 1000000) (h0 : 0 < l.length) (hq : W.cell? ⟨q, 0, none⟩ = some v) (hql : q < W.heap.size) (hv : LoopsV W l v) (bel : Below W.heap.size W w)
    (h : w.ownsRow W.heap.size 3 1 (.slice (some ⟨g, 0, none⟩) l.length c) l.length (ints (sortL l 0 l.length))) :
    Calls Tryz.prog 71 #[.slice (some ⟨g, 0, none⟩) l.length c, .int .i64 0, .int .i64 l.length, .func (.func 33) #[] #[.pointer (some ⟨q, 0, none⟩)]] w fun e w' => e = .returned (.tuple #[]) ∧ w'.ownsRow W.heap.size 3 1 (.slice (some ⟨g, 0, none⟩) l.length c) l.length (ints (innerF l)) ∧ Below W.heap.size W w' := by
  have hB : W.heap.size ≤ g := (h.lt g rfl).1
  have HC := hide (fun (a b : Nat) (ha : a < l.length) (hb : b < l.length) w2 (b2 : Below W.heap.size W w2) => inner1_any l a b ha hb v q w2 ((b2.cell (p := ⟨q, 0, none⟩) hql).trans hq) (Nat.lt_of_lt_of_le hql b2.size) (hv.below b2))
  have H0 : Hid (w.ownsRow W.heap.size 3 1 (.slice (some ⟨g, 0, none⟩) l.length c) l.length (ints (sortL l 1 l.length))) := hide (by rw [sort_one l h0]; exact h)
  have HB := hide bel
  have HEnd : Hid (sortL l l.length l.length = innerF l) := hide (sort_end l)
  clear h bel hv hq
  generalize l.length = n at *
  go_enter Tryz.func71, Tryz.ntmps71
  go_wp2_with fail
  go_loopw [8] (fun i wr => ∃ I : Nat, 1 ≤ I ∧ I ≤ n ∧ i = .int .i64 I ∧ Hid (wr.ownsRow W.heap.size 3 1 (.slice (some ⟨g, 0, none⟩) n c) n (ints (sortL l I n))) ∧ Hid (Below W.heap.size W wr)) (fun i _ => n - (intOf i).toNat)
  case atStart => exact ⟨1, Nat.le_refl _, h0, by go_num, H0, HB⟩
  case round =>
    clear H0 HB
    obtain ⟨I, hI1, hI, rfl, HO, HW⟩ := hrel
    by_cases hlt : I < n
    · have hltI : (I : Int) < n := by omega
      have HO2 : Hid (wr.ownsRow W.heap.size 3 1 (.slice (some ⟨g, 0, none⟩) n c) n (ints (sinkL l I I n))) := hide (by rw [← sort_sink l hlt]; exact HO.out)
      clear HO
      go_wp2_with fail
      go_loopw [9] (fun j wr => ∃ J : Nat, J ≤ I ∧ j = .int .i64 J ∧ Hid (wr.ownsRow W.heap.size 3 1 (.slice (some ⟨g, 0, none⟩) n c) n (ints (sinkL l I J n))) ∧ Hid (Below W.heap.size W wr) ∧ Hid (∀ b, (innerK l I)[J]? = some b → nB l I < nB l b.toNat)) (fun j _ => (intOf j).toNat)
      case atStart => exact ⟨I, Nat.le_refl _, rfl, HO2, HW, hide (fun b hb => by rw [List.getElem?_eq_none (by rw [innerK_len]; exact Nat.le_refl _)] at hb; cases hb)⟩
      case round =>
        clear HO2 HW
        obtain ⟨J, hJ, rfl, HO, HW, HG⟩ := hrel
        have hB2 := hide (fun x => below_step HW.out (L5.grewTo_below wr x))
        have HO2 := hide (fun x => own_below (L5.grewTo_below wr x) _ _ _ _ _ _ HO.out)
        by_cases hJ0 : J = 0
        · subst hJ0
          have HE : Hid (sinkL l I 0 n = sortL l (I + 1) n) := hide (by
            have e := putAt_eq (l := l) (K := I) (J := 0) (Nat.zero_le _) HG.out (fun P hP => by omega)
            rw [← sink_sort, e])
          clear HG
          go_wp2_with fail
          refine L5.region_grew (by kernel_rfl) (by kernel_rfl) ?_
          repeat (go_big_quiet_step (fail))
          refine wpQuiet_nil ?_
          rintro _ ⟨x, rfl⟩
          go_wp2_with fail
          go_roundw
          case rel => exact ⟨I + 1, by omega, by omega, by go_num, hide (by rw [← HE.out]; exact HO2.out x), hide (hB2.out x)⟩
          case measure => simp [intOf]; omega
        · obtain ⟨P, hP⟩ : ∃ P, P + 1 = J := ⟨J - 1, by omega⟩
          have hPI : (J : Int) - 1 = (P : Int) := by omega
          have hJp : decide (0 < J) = true := decide_eq_true (by omega)
          have hJn : (J : Int) < n := by omega
          have hPn : (P : Int) < n := by omega
          obtain ⟨b, hb⟩ : ∃ b, (innerK l I)[P]? = some b := ⟨_, List.getElem?_eq_getElem (by rw [innerK_len]; omega)⟩
          obtain ⟨Bn, rfl, hBn⟩ := innerK_mem l I b (List.mem_of_getElem? hb)
          have C1 := hide (fun x => (World.ownsRow.cellAt (HO2.out x) J (by omega)).trans (ints_at (sink_at l hJ)))
          have C2 := hide (fun x => (World.ownsRow.cellAt (HO2.out x) P (by omega)).trans (ints_at (by rw [← hP, sink_below l (by omega)]; exact hb)))
          have c1 := C1.out
          have c2 := C2.out
          have HCm := hide (fun x => HC.out I Bn hlt (by omega) (L5.grewTo wr x) (hB2.out x))
          obtain ⟨r, HRr⟩ : ∃ r, Hid (cmpI (nB l I) (nB l Bn) = r) := ⟨_, hide rfl⟩
          rw [HRr.out] at HCm
          by_cases hcm : nB l I < nB l Bn
          · have hr : decide (r < 0) = true := decide_eq_true (by have := HRr.out; unfold cmpI at this; rw [if_pos hcm] at this; omega)
            have HSw := hide (sink_swap l (n := n) (show P + 1 ≤ I by omega) hb)
            have HG2 : Hid (∀ b, (innerK l I)[P]? = some b → nB l I < nB l b.toNat) := hide (fun b' hb' => by rw [hb] at hb'; injection hb' with hb'; rw [← hb']; exact hcm)
            rw [hP] at HSw
            clear hb HG hcm HO HRr
            go_wp2_with fail
            refine L5.region_grew (by kernel_rfl) (by kernel_rfl) ?_
            repeat (go_big_quiet_step ((go_at_call 33; exact L5.calls_grew (HCm.out _))))
            refine wpQuiet_nil ?_
            rintro _ ⟨x, rfl⟩
            have HO3 := hide (HO2.out x)
            have HW3 := hide (hB2.out x)
            replace c1 := C1.out x
            replace c2 := C2.out x
            clear C1 C2 HCm hB2 HO2 HW hJp hr
            generalize L5.grewTo wr x = w2 at *
            have f1 := World.ownsRow.frozenAt HO3.out J
            have f2 := World.ownsRow.frozenAt HO3.out P
            go_wp2_with fail
            go_region
            have HE : Hid (((w2.setCell ⟨g, J, none⟩ (.int .i64 Bn)).setCell ⟨g, P, none⟩ (.int .i64 I)).drew.ownsRow W.heap.size 3 1 (.slice (some ⟨g, 0, none⟩) n c) n (ints (sinkL l I P n))) := hide (by rw [← HSw.out]; exact own_set2 HO3.out)
            have HE2 : Hid (Below W.heap.size W ((w2.setCell ⟨g, J, none⟩ (.int .i64 Bn)).setCell ⟨g, P, none⟩ (.int .i64 I)).drew) := hide (((HW3.out.setCell (p := ⟨g, J, none⟩) hB _).setCell (p := ⟨g, P, none⟩) hB _).drew)
            go_wp2_with fail
            go_roundw
            case rel => exact ⟨P, by omega, by go_num, HE, HE2, HG2⟩
            case measure => simp [intOf]; omega
          · have hr : decide (r < 0) = false := decide_eq_false (by
              have := HRr.out
              unfold cmpI at this
              rw [if_neg hcm] at this
              by_cases h3 : nB l Bn < nB l I
              · rw [if_pos h3] at this; omega
              · rw [if_neg h3] at this; omega)
            have HE : Hid (sinkL l I J n = sortL l (I + 1) n) := hide (by
              have e := putAt_eq (l := l) (K := I) (J := J) hJ HG.out (fun P' hP' b' hb' => by
                obtain rfl : P' = P := by omega
                rw [hb] at hb'
                injection hb' with hb'
                rw [← hb']
                show nB l Bn ≤ nB l I
                omega)
              rw [← sink_sort, e])
            clear hb HG hcm HO HRr
            go_wp2_with fail
            refine L5.region_grew (by kernel_rfl) (by kernel_rfl) ?_
            repeat (go_big_quiet_step ((go_at_call 33; exact L5.calls_grew (HCm.out _))))
            refine wpQuiet_nil ?_
            rintro _ ⟨x, rfl⟩
            clear c1 c2 C1 C2 HCm
            go_wp2_with fail
            go_roundw
            case rel => exact ⟨I + 1, by omega, by omega, by go_num, hide (by rw [← HE.out]; exact HO2.out x), hide (hB2.out x)⟩
            case measure => simp [intOf]; omega
    · obtain rfl : I = n := by omega
      have HE : Hid (wr.ownsRow W.heap.size 3 1 (.slice (some ⟨g, 0, none⟩) I c) I (ints (innerF l))) := hide (by rw [← HEnd.out]; exact HO.out)
      go_wp2_with fail
      go_end0
      exact ⟨rfl, HE.out, HW.out⟩
set_option maxHeartbeats 4000000 in
set_option maxRecDepth 20000 in
theorem stable_any (l : List Lp) (v : Value) (q g c : Nat) (W w : World) (hl : l.length ≤ 19) (h0 : 0 < l.length) (hq : W.cell? ⟨q, 0, none⟩ = some v) (hql : q < W.heap.size) (hv : LoopsV W l v) (bel : Below W.heap.size W w)
    (h : w.ownsRow W.heap.size 3 1 (.slice (some ⟨g, 0, none⟩) l.length c) l.length (ints (sortL l 0 l.length))) :
    Calls Tryz.prog 53 #[.slice (some ⟨g, 0, none⟩) l.length c, .int .i64 l.length, .func (.func 33) #[] #[.pointer (some ⟨q, 0, none⟩)]] w fun e w' => e = .returned (.tuple #[]) ∧ w'.ownsRow W.heap.size 3 1 (.slice (some ⟨g, 0, none⟩) l.length c) l.length (ints (innerF l)) ∧ Below W.heap.size W w' := by
  have HI := hide (isort_any l v q g c W w (by omega) h0 hq hql hv bel h)
  have hlI : ¬ (20 : Int) ≤ l.length := by omega
  have hlI2 : ¬ (20 : Int) < l.length := by omega
  clear h bel hv hq
  generalize l.length = n at *
  go_enter Tryz.func53, Tryz.ntmps53
  go_wp2_with fail
  go_loopw [7, 8] (fun a b wr => a = .int .i64 0 ∧ b = .int .i64 20 ∧ wr = w) (fun _ _ _ => 0)
  case atStart => exact ⟨rfl, rfl, rfl⟩
  case round =>
    obtain ⟨rfl, rfl, rfl⟩ := hrel
    go_wp2_with fail
    refine HI.out.mono ?_; rintro e w1 ⟨rfl, ho, hb⟩
    have HO := hide ho
    have HB := hide hb
    clear HI ho hb
    go_wp2_with fail
    go_loopw [6] (fun a wr => a = .int .i64 20 ∧ wr = w1) (fun _ _ => 0)
    case atStart => exact ⟨rfl, rfl⟩
    case round =>
      obtain ⟨rfl, rfl⟩ := hrel
      go_wp2_with fail
      go_end0
      exact ⟨rfl, HO.out, HB.out⟩
theorem sorted_any (l : List Lp) (v : Value) (q g c : Nat) (W w : World) (hl : l.length ≤ 19) (h0 : 0 < l.length) (hq : W.cell? ⟨q, 0, none⟩ = some v) (hql : q < W.heap.size) (hv : LoopsV W l v) (bel : Below W.heap.size W w)
    (h : w.ownsRow W.heap.size 3 1 (.slice (some ⟨g, 0, none⟩) l.length c) l.length (ints (sortL l 0 l.length))) :
    Calls Tryz.prog 32 #[.slice (some ⟨g, 0, none⟩) l.length c, .func (.func 33) #[] #[.pointer (some ⟨q, 0, none⟩)]] w fun e w' => e = .returned (.tuple #[]) ∧ w'.ownsRow W.heap.size 3 1 (.slice (some ⟨g, 0, none⟩) l.length c) l.length (ints (innerF l)) ∧ Below W.heap.size W w' := by
  have HI := hide (stable_any l v q g c W w hl h0 hq hql hv bel h)
  clear h bel hv hq
  generalize l.length = n at *
  go_enter Tryz.func32, Tryz.ntmps32
  go_wp2_with fail
  refine HI.out.mono ?_; rintro e w1 ⟨rfl, ho, hb⟩
  have HO := hide ho
  have HB := hide hb
  clear HI ho hb
  go_wp2_with fail
  go_end0
  exact ⟨rfl, HO.out, HB.out⟩
end Go.Proofs.YtmiplohoclckcaaGreat
namespace Go.Proofs.YtmiplohoclckcaaGreat
open Go Go.RowKit
open G (Tok Er Ins Fun)
def numL (I n : Nat) : List Int := (List.range I).map Int.ofNat ++ List.replicate (n - I) 0
theorem numL_len {I n : Nat} (h : I ≤ n) : (numL I n).length = n := by simp [numL]; omega
theorem numL_set {I n : Nat} (h : I < n) : (numL I n).set I (I : Int) = numL (I + 1) n := by
  unfold numL
  have e : n - I = (n - (I + 1)) + 1 := by omega
  rw [e, List.replicate_succ, List.set_append_right _ _ (by simp), List.range_succ]
  simp
theorem numL_end (l : List Lp) (n : Nat) : numL n n = sortL l 0 n := by rw [sort_zero]; simp [numL]
theorem isort_none (ao : Option Addr) (c q : Nat) (w : World) : Calls Tryz.prog 71 #[.slice ao 0 c, .int .i64 0, .int .i64 0, .func (.func 33) #[] #[.pointer (some ⟨q, 0, none⟩)]] w fun e w' => e = .returned (.tuple #[]) ∧ w' = w := by
  go_enter Tryz.func71, Tryz.ntmps71
  go_wp2_with fail
  go_loopw [8] (fun i wr => i = .int .i64 1 ∧ wr = w) (fun _ _ => 0)
  case atStart => exact ⟨rfl, rfl⟩
  case round =>
    obtain ⟨rfl, rfl⟩ := hrel
    go_wp2_with fail
    go_end0
    exact ⟨rfl, rfl⟩
theorem stable_none (ao : Option Addr) (c q : Nat) (w : World) : Calls Tryz.prog 53 #[.slice ao 0 c, .int .i64 0, .func (.func 33) #[] #[.pointer (some ⟨q, 0, none⟩)]] w fun e w' => e = .returned (.tuple #[]) ∧ w' = w := by
  have HI := hide (isort_none ao c q w)
  go_enter Tryz.func53, Tryz.ntmps53
  go_wp2_with fail
  go_loopw [7, 8] (fun a b wr => a = .int .i64 0 ∧ b = .int .i64 20 ∧ wr = w) (fun _ _ _ => 0)
  case atStart => exact ⟨rfl, rfl, rfl⟩
  case round =>
    obtain ⟨rfl, rfl, rfl⟩ := hrel
    go_wp2_with fail
    refine HI.out.mono ?_; rintro e w1 ⟨rfl, rfl⟩
    clear HI
    go_wp2_with fail
    go_loopw [6] (fun a wr => a = .int .i64 20 ∧ wr = w1) (fun _ _ => 0)
    case atStart => exact ⟨rfl, rfl⟩
    case round =>
      obtain ⟨rfl, rfl⟩ := hrel
      go_wp2_with fail
      go_end0
      exact ⟨rfl, rfl⟩
theorem sorted_none (ao : Option Addr) (c q : Nat) (w : World) : Calls Tryz.prog 32 #[.slice ao 0 c, .func (.func 33) #[] #[.pointer (some ⟨q, 0, none⟩)]] w fun e w' => e = .returned (.tuple #[]) ∧ w' = w := by
  have HI := hide (stable_none ao c q w)
  go_enter Tryz.func32, Tryz.ntmps32
  go_wp2_with fail
  refine HI.out.mono ?_; rintro e w1 ⟨rfl, rfl⟩
  go_wp2_with fail
  go_end0
  exact ⟨rfl, rfl⟩
/-- The list put in order, also an empty one. -/
theorem sorts_any (l : List Lp) (v : Value) (q g c : Nat) (W w : World) (hl : l.length ≤ 19) (hq : W.cell? ⟨q, 0, none⟩ = some v) (hql : q < W.heap.size) (hv : LoopsV W l v) (bel : Below W.heap.size W w)
    (h : w.ownsRow W.heap.size 3 1 (.slice (some ⟨g, 0, none⟩) l.length c) l.length (ints (sortL l 0 l.length))) :
    Calls Tryz.prog 32 #[.slice (some ⟨g, 0, none⟩) l.length c, .func (.func 33) #[] #[.pointer (some ⟨q, 0, none⟩)]] w fun e w' => e = .returned (.tuple #[]) ∧ w'.ownsRow W.heap.size 3 1 (.slice (some ⟨g, 0, none⟩) l.length c) l.length (ints (innerF l)) ∧ Below W.heap.size W w' := by
  by_cases h0 : 0 < l.length
  · exact sorted_any l v q g c W w hl h0 hq hql hv bel h
  · obtain rfl : l = [] := List.length_eq_zero_iff.1 (by omega)
    refine (sorted_none (some ⟨g, 0, none⟩) c q w).mono ?_
    rintro e w' ⟨rfl, rfl⟩
    exact ⟨rfl, h, bel⟩
set_option maxHeartbeats 4000000 in
set_option maxRecDepth 20000 in
theorem inner_any (l : List Lp) (v : Value) (w : World) (hv : LoopsV w l v) (hl : l.length ≤ 19) :
    Calls Tryz.prog 14 #[v] w fun e w' => ∃ u, e = .returned u ∧ IntsV w' (innerF l) u ∧ Below w.heap.size w w' := by
  obtain ⟨i3, hi3, hz3, hz4, hz5⟩ := info_parts Tryz.info3
  have hmf : ∀ (fn : Fn) (first cap : Array Value) (w : World), (Instr.makeFunc fn first cap).run Tryz.prog w = .ok (.func fn first cap) w := fun _ _ _ _ => rfl
  have hv2 := hv
  obtain ⟨ao, c, rfl, _, _, _⟩ := hv2
  have b0 := below_box w (.cells #[.slice ao l.length c] 28)
  have B0 := hide b0
  have HV := hide (hv.below b0)
  have H0 := hide (heap_alloc_new w (.cells #[.slice ao l.length c] 28))
  have hs0 : w.heap.size < (w.alloc (.cells #[.slice ao l.length c] 28)).heap.size := by simp
  have HIl : Hid ((innerF l).length = l.length) := hide (innerK_len l l.length)
  clear b0 hv
  go_enter Tryz.func14, Tryz.ntmps14
  go_upto_region 1 with fail
  show Code.wp _ _ _ _ (w.alloc (.cells #[.slice ao l.length c] 28))
  generalize w.alloc (.cells #[.slice ao l.length c] 28) = W at *
  generalize hq : w.heap.size = q at *
  have c0 := (box1 H0.out).1
  have HSo := hide (fun (g cc : Nat) (w2 : World) bel h => sorts_any l _ q g cc W w2 hl c0 hs0 HV.out bel h)
  have HNe := hide (numL_end l l.length)
  clear H0 HV
  generalize l.length = n at *
  go_upto_region 2 with (at_make; refine wpList_make_full _ rfl _ _ 22 rfl W.heap.size 3 i3 _ 1 Tryz.underlying22 hi3 hz3 hz4 .i64 .i64 n n n rfl rfl rfl rfl (by rw [hz5]; omega) (by unfold maxLen; omega) (Nat.le_refl _) ?_; intro w1 own1 grow1; refine Hid.out ?_)
  rw [made_ints] at own1
  have R1 : Hid (RowAt w1 W.heap.size 3 W.heap.size n (ints (numL 0 n))) := hide (by
    have e : numL 0 n = List.replicate n 0 := by simp [numL]
    rw [e]; exact own1)
  have B1 := hide (grown_b grow1)
  clear own1 grow1
  generalize hg : W.heap.size = g at *
  replace hg := hide hg
  refine hide ?_
  go_wp2_with fail
  go_loopw [10] (fun i wr => ∃ J : Nat, J ≤ n ∧ i = .int .i64 J ∧ Hid (RowAt wr g 3 g n (ints (numL J n))) ∧ Hid (Below g W wr)) (fun i _ => n - (intOf i).toNat)
  case atStart => exact ⟨0, Nat.zero_le _, rfl, R1, B1⟩
  case round =>
    clear R1 B1
    obtain ⟨J, hJ, rfl, HA, HW⟩ := hrel
    by_cases hjt : J < n
    · have hjI : (J : Int) < n := by omega
      obtain ⟨m, hm⟩ : ∃ m, (numL J n)[J]? = some m := ⟨_, List.getElem?_eq_getElem (by rw [numL_len hJ]; omega)⟩
      have c1 := HA.out.cell (ints_at hm)
      have f1 := HA.out.frozen J
      have HE : Hid (RowAt (wr.setCell ⟨g, J, none⟩ (.int .i64 J)) g 3 g n (ints (numL (J + 1) n)) ∧ Below g W (wr.setCell ⟨g, J, none⟩ (.int .i64 J))) := hide ⟨by rw [← numL_set hjt, ← ints_set]; exact HA.out.set J _, HW.out.setCell (p := ⟨g, J, none⟩) (Nat.le_refl _) _⟩
      clear hm
      go_wp2_with fail
      go_roundw
      case rel => exact ⟨J + 1, by omega, by go_num, hide HE.out.1, hide HE.out.2⟩
      case measure => simp [intOf]; omega
    · obtain rfl : J = n := by omega
      have HC := hide (HSo.out g J wr HW.out (by rw [← HNe.out]; exact HA.out))
      clear HSo HA c0
      go_wp2_with fail
      refine HC.out.mono ?_; rintro e w3 ⟨rfl, ho, hb⟩
      have HE : Hid (IntsV w3 (innerF l) (.slice (some ⟨g, 0, none⟩) J J) ∧ Below q w w3) := hide ⟨ints_of (by rw [HIl.out]; exact ho), by
        have h1 := B0.out
        rw [← hq] at h1 ⊢
        rw [← hg.out] at hb
        exact below_step h1 hb⟩
      clear HC ho hb
      go_wp2_with fail
      go_ret
      exact ⟨_, rfl, HE.out.1, by rw [hq]; exact HE.out.2⟩
end Go.Proofs.YtmiplohoclckcaaGreat
namespace Go.Proofs.YtmiplohoclckcaaGreat
open Go Go.RowKit
open G (Tok Er Ins Fun)
theorem Tryz.info61 : (Tryz.prog.info? 61).map (fun i => (i.zero, i.size, i.bytes)) = some (some (.agg #[.int .i64 0, .int .i64 0]), 2, 16) := by kernel_rfl
theorem two_cell {w : World} {a0 a1 : Value} {t : TypeId} : ∀ (j : Nat) (u : Value), [a0, a1][j]? = some u → (w.alloc (.cells #[a0, a1] t)).cell? ((⟨w.heap.size, 0, none⟩ : Addr).add j) = some u :=
  World.news_of_block (cs := #[a0, a1]) (heap_alloc_new w _)
theorem two_one {a b : Int} : ∀ u ∈ [Value.int .i64 a, Value.int .i64 b], u.oneCell' = true := by
  intro u hu
  simp only [List.mem_cons, List.not_mem_nil, or_false] at hu
  rcases hu with rfl | rfl <;> rfl
theorem two_of {w : World} {b t : Nat} {a0 a1 : Value} (h : w.heap[b]? = some (.cells #[a0, a1] t (0, 0))) : (w.cell? ⟨b, 0, none⟩ = some a0 ∧ w.cell? ⟨b, 1, none⟩ = some a1) ∧ b < w.heap.size := by
  refine ⟨⟨?_, ?_⟩, (Array.getElem?_eq_some_iff.1 h).1⟩ <;> simp [World.cell?, h]
theorem pairs_read {B : Nat} {w : World} {l : List (Int × Int)} {v : Value} (h : w.ownsRow B 61 2 v l.length (pairsC l)) : PairsV w l v := by
  rcases own_view h with ⟨rfl, hn⟩ | ⟨g, cap, rfl, k1, k2, k3, k4, k5, k6⟩
  · have e : l = [] := List.length_eq_zero_iff.1 hn
    subst e
    exact ⟨none, 0, rfl, .inl rfl, by unfold maxLen; simp⟩
  · exact ⟨_, cap, rfl, .inr ⟨g, rfl, k4, fun i p hp => ⟨k5 _ _ (pairsC_at l i p hp).1, k5 _ _ (pairsC_at l i p hp).2⟩⟩, Nat.le_trans k1 k2⟩
set_option maxHeartbeats 2000000 in
set_option maxRecDepth 20000 in
theorem enters_any (x : Lp) (a b : Int) (xv : Value) (w : World) (hx : LoopV w x xv) (hs : Srt x.2.1) :
    Calls Tryz.prog 38 #[.agg #[.int .i64 a, .int .i64 b], xv] w fun e w' => e = .returned (.bool (entB x (a, b))) ∧ Below w.heap.size w w' := by
  have hx2 := hx
  obtain ⟨xb, xk, rfl, ⟨xo, xc, rfl, _⟩, ⟨zo, zc, rfl, _⟩⟩ := hx2
  have b1 := below_box w (.cells #[.int .i64 a, .int .i64 b] 61)
  have H1 := heap_alloc_new w (.cells #[.int .i64 a, .int .i64 b] 61)
  have b2 := below_box (w.alloc (.cells #[.int .i64 a, .int .i64 b] 61)) (.cells #[.int .i64 x.1, .slice xo x.2.1.length xc, .slice zo x.2.2.1.length zc, .int .i64 x.2.2.2] 36)
  have HX := hide (heap_alloc_new (w.alloc (.cells #[.int .i64 a, .int .i64 b] 61)) (.cells #[.int .i64 x.1, .slice xo x.2.1.length xc, .slice zo x.2.2.1.length zc, .int .i64 x.2.2.2] 36))
  have HE0 := hide ((b2.block w.heap.size (by simp)).trans H1)
  have HV := hide (hx.below (below_step b1 b2))
  have HB := hide (below_step b1 b2)
  have HEn : Hid (entB x (a, b) = (decide (b = x.1) && !hasL x.2.1 a)) := hide rfl
  have hs1 : (w.alloc (.cells #[.int .i64 a, .int .i64 b] 61)).heap.size = w.heap.size + 1 := by simp
  rw [hs1] at HX
  clear hx b1 H1 b2 hs1
  go_enter Tryz.func38, Tryz.ntmps38
  go_upto_region 1 with fail
  show Code.wp _ _ _ _ ((w.alloc (.cells #[.int .i64 a, .int .i64 b] 61)).alloc (.cells #[.int .i64 x.1, .slice xo x.2.1.length xc, .slice zo x.2.2.1.length zc, .int .i64 x.2.2.2] 36))
  generalize (w.alloc (.cells #[.int .i64 a, .int .i64 b] 61)).alloc (.cells #[.int .i64 x.1, .slice xo x.2.1.length xc, .slice zo x.2.2.1.length zc, .int .i64 x.2.2.2] 36) = W at *
  generalize hq : w.heap.size = q at *
  obtain ⟨⟨c0, c1, c2, c3⟩, _, _⟩ := four_of HX.out
  obtain ⟨⟨d0, d1⟩, _⟩ := two_of HE0.out
  by_cases hbx : b = x.1
  · have hd : (b == x.1) = true := beq_iff_eq.2 hbx
    have HR : Hid ((!hasL x.2.1 a) = entB x (a, b)) := hide (by rw [HEn.out, decide_eq_true hbx]; rfl)
    have HH := hide (holds_any x a _ W HV.out hs)
    clear hbx
    go_wp2_with fail
    refine HH.out.mono ?_; rintro e w1 ⟨rfl, b1⟩
    have HE : Hid (Below q w w1) := hide (by have h := HB.out; rw [← hq] at h ⊢; exact below_step h b1)
    clear HH b1 c0 c1 c2 c3 d0 d1
    go_wp2_with fail
    go_ret
    exact ⟨L5.ret_bool HR.out, by rw [hq]; exact HE.out⟩
  · have hd : (b == x.1) = false := beq_eq_false_iff_ne.2 hbx
    have HR : Hid (false = entB x (a, b)) := hide (by rw [HEn.out, decide_eq_false hbx]; rfl)
    clear hbx
    go_wp2_with fail
    go_ret
    exact ⟨L5.ret_bool HR.out, by rw [hq]; exact HB.out⟩
/-- A loop in a box. -/
def LpBox (w : World) (q : Nat) (x : Lp) (xo zo : Option Addr) (xc zc : Nat) : Prop := w.heap[q]? = some (.cells #[.int .i64 x.1, .slice xo x.2.1.length xc, .slice zo x.2.2.1.length zc, .int .i64 x.2.2.2] 36 (0, 0)) ∧ LoopV w x (.agg #[.int .i64 x.1, .slice xo x.2.1.length xc, .slice zo x.2.2.1.length zc, .int .i64 x.2.2.2])
theorem LpBox.below {w w' : World} {q : Nat} {x : Lp} {xo zo : Option Addr} {xc zc : Nat} (h : LpBox w q x xo zo xc zc) (b : Below w.heap.size w w') : LpBox w' q x xo zo xc zc :=
  ⟨(b.block q (Array.getElem?_eq_some_iff.1 h.1).1).trans h.1, h.2.below b⟩
set_option maxHeartbeats 2000000 in
set_option maxRecDepth 20000 in
theorem entry1_any (x : Lp) (a b : Int) (q : Nat) (xo zo : Option Addr) (xc zc : Nat) (w : World) (hx : LpBox w q x xo zo xc zc) (hs : Srt x.2.1) :
    Calls Tryz.prog 37 #[.agg #[.int .i64 a, .int .i64 b], .pointer (some ⟨q, 0, none⟩)] w fun e w' => e = .returned (.bool (entB x (a, b))) ∧ Below w.heap.size w w' := by
  have b1 := below_box w (.cells #[.int .i64 a, .int .i64 b] 61)
  have HE0 := hide (heap_alloc_new w (.cells #[.int .i64 a, .int .i64 b] 61))
  have HX := hide (hx.below b1)
  have HB := hide b1
  have HH := hide (fun w xv hv => enters_any x a b xv w hv hs)
  clear hx b1
  go_enter Tryz.func37, Tryz.ntmps37
  go_upto_region 1 with fail
  show Code.wp _ _ _ _ (w.alloc (.cells #[.int .i64 a, .int .i64 b] 61))
  generalize w.alloc (.cells #[.int .i64 a, .int .i64 b] 61) = W at *
  generalize hq : w.heap.size = q2 at *
  obtain ⟨⟨c0, c1, c2, c3⟩, _, _⟩ := four_of HX.out.1
  obtain ⟨⟨d0, d1⟩, _⟩ := two_of HE0.out
  have HH2 := hide (HH.out W _ HX.out.2)
  go_wp2_with fail
  refine HH2.out.mono ?_; rintro e w1 ⟨rfl, b1⟩
  have HE : Hid (Below q2 w w1) := hide (by have h := HB.out; rw [← hq] at h ⊢; exact below_step h b1)
  clear HH HH2 b1 c0 c1 c2 c3 d0 d1
  go_wp2_with fail
  go_ret
  exact ⟨rfl, by rw [hq]; exact HE.out⟩
set_option maxHeartbeats 2000000 in
set_option maxRecDepth 20000 in
theorem index_any (x : Lp) (E : List (Int × Int)) (hE : E.length ≤ 1000000) (q : Nat) (xo zo : Option Addr) (xc zc : Nat) (ev : Value) (w : World) (he : PairsV w E ev) (hx : LpBox w q x xo zo xc zc) (hs : Srt x.2.1) :
    Calls Tryz.prog 36 #[ev, .func (.func 37) #[] #[.pointer (some ⟨q, 0, none⟩)]] w fun e w' => (∃ r : Int, e = .returned (.int .i64 r) ∧ ((r = -1 ∧ ∀ p ∈ E, entB x p = false) ∨ ∃ (I : Nat) (p : Int × Int), r = I ∧ E[I]? = some p ∧ entB x p = true)) ∧ Below w.heap.size w w' := by
  obtain ⟨eo, ec, rfl, he2, _⟩ := he
  have HP := hide he2
  have HH := hide (fun w2 (b2 : Below w.heap.size w w2) a b => entry1_any x a b q xo zo xc zc w2 (hx.below b2) hs)
  clear he2 hx hs
  go_enter Tryz.func36, Tryz.ntmps36
  go_wp2_with fail
  go_loopw [8] (fun i wr => ∃ K : Nat, K ≤ E.length ∧ i = .int .i64 K ∧ Hid (∀ (j : Nat) (p : Int × Int), j < K → E[j]? = some p → entB x p = false) ∧ Hid (Below w.heap.size w wr)) (fun i _ => E.length - (intOf i).toNat)
  case atStart => exact ⟨0, Nat.zero_le _, rfl, hide (fun j p h => absurd h (Nat.not_lt_zero _)), hide (Below.refl _ _)⟩
  case round =>
    obtain ⟨K, hK, rfl, HF, HW⟩ := hrel
    by_cases hkt : K < E.length
    · have hkI : (K : Int) < E.length := by omega
      obtain ⟨p, hp⟩ : ∃ p, E[K]? = some p := ⟨_, List.getElem?_eq_getElem hkt⟩
      rcases HP.out with he | ⟨g, rfl, hg, hc⟩
      · subst he; simp at hkt
      have c0 := (HW.out.cell (p := ⟨g, K * 2, none⟩) hg).trans (hc K p hp).1
      have c1 := (HW.out.cell (p := ⟨g, K * 2 + 1, none⟩) hg).trans (hc K p hp).2
      have HH2 := hide (HH.out wr HW.out p.1 p.2)
      have HPk := hide hp
      clear hc hp
      cases hb : entB x p with
      | true =>
        have hb2 : entB x (p.1, p.2) = true := hb
        rw [hb2] at HH2
        have HBt := hide hb
        clear hb hb2
        go_wp2_with fail
        refine HH2.out.mono ?_; rintro e w1 ⟨rfl, b1⟩
        have HW1 := hide (below_step HW.out b1)
        clear HH2 c0 c1 b1
        go_wp2_with fail
        go_ret
        exact ⟨⟨(K : Int), rfl, .inr ⟨K, p, rfl, HPk.out, HBt.out⟩⟩, HW1.out⟩
      | false =>
        have hb2 : entB x (p.1, p.2) = false := hb
        rw [hb2] at HH2
        have HF2 : Hid (∀ (j : Nat) (p : Int × Int), j < K + 1 → E[j]? = some p → entB x p = false) := hide (fun j p' hj hp' => by
          by_cases e : j = K
          · subst e
            have := HPk.out
            rw [hp'] at this
            injection this with this
            rw [this]; exact hb
          · exact HF.out j p' (by omega) hp')
        clear hb hb2
        go_wp2_with fail
        refine HH2.out.mono ?_; rintro e w1 ⟨rfl, b1⟩
        have HW1 := hide (below_step HW.out b1)
        clear HH2 c0 c1 b1
        go_wp2_with fail
        go_roundw
        case rel => exact ⟨K + 1, by omega, by go_num, HF2, HW1⟩
        case measure => simp [intOf]; omega
    · obtain rfl : K = E.length := by omega
      go_wp2_with fail
      go_ret
      exact ⟨⟨-1, rfl, .inl ⟨rfl, fun p hp => by
        obtain ⟨j, hj⟩ := List.mem_iff_getElem?.1 hp
        exact HF.out j p (List.getElem?_eq_some_iff.1 hj).1 hj⟩⟩, HW.out⟩
/-- The edges, a block's own under way. -/
def edgesJ (f : Fun) (K J : Nat) : List (Int × Int) := edgesK f K ++ ((nextF f K).take J).map fun m => ((K : Int), m)
theorem edgesJ_zero (f : Fun) (K : Nat) : edgesJ f K 0 = edgesK f K := by simp [edgesJ]
theorem edgesJ_end (f : Fun) (K : Nat) : edgesJ f K (nextF f K).length = edgesK f (K + 1) := by unfold edgesJ; rw [List.take_length, edgesK_succ]
theorem edgesJ_step {f : Fun} {K J : Nat} {m : Int} (h : (nextF f K)[J]? = some m) : edgesJ f K (J + 1) = edgesJ f K J ++ [((K : Int), m)] := by
  unfold edgesJ; rw [take_more h, List.map_append, List.append_assoc]; rfl
theorem pairsC_snoc (l : List (Int × Int)) (a b : Int) : pairsC (l ++ [(a, b)]) = pairsC l ++ [.int .i64 a, .int .i64 b] := by simp [pairsC]
theorem edgesJ_len {f : Fun} (hT : Tos f) (hN : f.2.2.2.1.length ≤ 1000) {K : Nat} (hK : K < f.2.2.2.1.length) (J : Nat) : (edgesJ f K J).length ≤ 1000000 := by
  have h1 := edgesK_len hT (K + 1)
  have h2 : (K + 1) * f.2.2.2.1.length ≤ 1000 * 1000 := Nat.mul_le_mul (by omega) hN
  have h3 : (edgesJ f K J).length ≤ (edgesK f (K + 1)).length := by
    rw [edgesK_succ]; unfold edgesJ
    simp only [List.length_append, List.length_map, List.length_take]
    omega
  omega
set_option maxHeartbeats 4000000 in
set_option maxRecDepth 20000 in
theorem edges_any (f : Fun) (v : Value) (w : World) (hv : FunV w f v) (hF : Ful f) (hT : Tos f) (hN : f.2.2.2.1.length ≤ 1000) :
    Calls Tryz.prog 35 #[v] w fun e w' => ∃ u, e = .returned u ∧ PairsV w' (edgesF f) u ∧ Below w.heap.size w w' := by
  obtain ⟨i6, hi6, hz0, hz1, hz2⟩ := info_parts Tryz.info61
  have hv2 := hv
  obtain ⟨vp, vb, rfl, _, _⟩ := hv2
  have b0 := below_box w (.cells #[.string (bs f.1), vp, .int .i64 f.2.2.1, vb, .int .i64 f.2.2.2.2] 25)
  have X0 := hide (L5.Box.new w [.string (bs f.1), vp, .int .i64 f.2.2.1, vb, .int .i64 f.2.2.2.2] 25)
  have HV := hide (hv.below b0)
  have B0 := hide b0
  have HCs := hide (fun v w hv => succs_any f v w hv hF hT)
  have HLn := hide (fun (K : Nat) (hK : K < f.2.2.2.1.length) J => edgesJ_len hT hN hK J)
  have HNl := hide (fun K => fit_len f.2.2.2.1.length (nextF f K) (once_nodup _) (hT K))
  clear b0 hv hF hT
  obtain ⟨lp, cp, rfl⟩ : ∃ ao c, vp = .slice ao f.2.1.length c := by
    obtain ⟨vp', vb', e, ⟨ao, c, e2, _⟩, _⟩ := HV.out
    injection e with e
    have e1 := congrArg (fun a => a[1]?) e
    simp at e1
    exact ⟨ao, c, by rw [e1, e2]⟩
  obtain ⟨lb, cb, rfl⟩ : ∃ ao c, vb = .slice ao f.2.2.2.1.length c := by
    obtain ⟨vp', vb', e, _, ⟨ao, c, e2, _⟩⟩ := HV.out
    injection e with e
    have e1 := congrArg (fun a => a[3]?) e
    simp at e1
    exact ⟨ao, c, by rw [e1, e2]⟩
  generalize bs f.1 = nm at *
  generalize f.2.1.length = lps at *
  generalize f.2.2.1 = rt at *
  obtain ⟨lbs, hlbs⟩ : ∃ n, n = f.2.2.2.1.length := ⟨_, rfl⟩
  have HEnd : Hid (edgesF f = edgesK f lbs) := hide (by rw [hlbs]; rfl)
  have HSl : Hid ((succsF f).length = lbs) := hide (by rw [succsF_len, hlbs])
  have HSt : Hid (∀ K : Nat, K < lbs → (succsF f)[K]? = some (nextF f K)) := hide (fun K hK => succsF_at (by omega))
  rw [← hlbs] at X0 HV B0 hN HLn HNl ⊢
  clear hlbs
  generalize f.2.2.2.2 = pl at *
  go_enter Tryz.func35, Tryz.ntmps35
  go_upto_region 1 with fail
  show Code.wp _ _ _ _ (w.alloc (.cells #[.string nm, .slice lp lps cp, .int .i64 rt, .slice lb lbs cb, .int .i64 pl] 25))
  replace X0 : Hid (L5.Box (w.alloc (.cells #[.string nm, .slice lp lps cp, .int .i64 rt, .slice lb lbs cb, .int .i64 pl] 25)) w.heap.size [.string nm, .slice lp lps cp, .int .i64 rt, .slice lb lbs cb, .int .i64 pl]) := X0
  generalize w.alloc (.cells #[.string nm, .slice lp lps cp, .int .i64 rt, .slice lb lbs cb, .int .i64 pl] 25) = W at *
  generalize hq : w.heap.size = q at *
  obtain ⟨x0, x1, x2, x3, x4⟩ : _ ∧ _ ∧ _ ∧ _ ∧ _ := ⟨X0.out.2 0 _ rfl, X0.out.2 1 _ rfl, X0.out.2 2 _ rfl, X0.out.2 3 _ rfl, X0.out.2 4 _ rfl⟩
  have HC := hide (HCs.out _ W HV.out)
  go_wp2_with fail
  refine HC.out.mono ?_; rintro e w1 ⟨u, rfl, hu, b1⟩
  obtain ⟨so, sc, rfl, hsr, _, _⟩ := hu.read
  have HR := hide hsr
  have B1 : Hid (Below w.heap.size w w1) := hide (by have h := B0.out; rw [← hq] at h; exact below_step h b1)
  rw [HSl.out]
  clear x0 x1 x2 x3 x4 HC HCs hu b1 hsr X0 HV B0 hq
  go_wp2_with fail
  go_loopw [3, 11] (fun lv i wr => ∃ K : Nat, K ≤ lbs ∧ i = .int .i64 K ∧ Hid (wr.ownsRow w1.heap.size 61 2 lv (edgesK f K).length (pairsC (edgesK f K))) ∧ Hid (Below w1.heap.size w1 wr)) (fun _ i _ => lbs - (intOf i).toNat)
  case atStart => exact ⟨0, Nat.zero_le _, rfl, hide (World.ownsRow_nil _ _ _ _), hide (Below.refl _ _)⟩
  case round =>
    obtain ⟨K, hK, rfl, HO, HW⟩ := hrel
    obtain ⟨lo, lc, rfl⟩ := own_len HO.out
    by_cases hkt : K < lbs
    · have hkI : (K : Int) < lbs := by omega
      rcases HR.out with he | ⟨rb, ro, rfl, hrb, hrc⟩
      · have := HSl.out; rw [he] at this; simp at this; omega
      obtain ⟨u, cu, hu⟩ := hrc K _ (HSt.out K hkt)
      obtain ⟨no, nc, rfl, hsl, _, _⟩ := hu
      have c1 := (HW.out.cell (p := ⟨rb, ro + K, none⟩) hrb).trans cu
      have HS := hide hsl
      have HO0 : Hid (wr.ownsRow w1.heap.size 61 2 (.slice lo (edgesK f K).length lc) (edgesJ f K 0).length (pairsC (edgesJ f K 0))) := hide (by rw [edgesJ_zero]; exact HO.out)
      have HE9 := hide (edgesJ_end f K)
      have HLn2 := hide (HLn.out K hkt)
      have hnl := HNl.out K
      clear hrc cu hsl HO
      go_wp2_with fail
      obtain ⟨wA, hwA⟩ : ∃ wA, wA = wr := ⟨_, rfl⟩
      rw [← hwA] at HO0 HW c1 ⊢
      clear hwA
      go_loopw [3, 18] (fun lv j wr => ∃ J : Nat, J ≤ (nextF f K).length ∧ j = .int .i64 J ∧ Hid (wr.ownsRow w1.heap.size 61 2 lv (edgesJ f K J).length (pairsC (edgesJ f K J))) ∧ Hid (Below w1.heap.size w1 wr)) (fun _ j _ => (nextF f K).length - (intOf j).toNat)
      case atStart => exact ⟨0, Nat.zero_le _, rfl, HO0, HW⟩
      case round =>
        clear HO0 HW c1
        obtain ⟨J, hJ, rfl, HO, HW⟩ := hrel
        obtain ⟨lo, lc, rfl⟩ := own_len HO.out
        by_cases hjt : J < (nextF f K).length
        · have hjI : (J : Int) < (nextF f K).length := by omega
          obtain ⟨m, hm⟩ : ∃ m, (nextF f K)[J]? = some m := ⟨_, List.getElem?_eq_getElem hjt⟩
          rcases HS.out with he | ⟨nb, nof, rfl, hnb, hnc⟩
          · rw [he] at hjt; simp at hjt
          have c1 := (HW.out.cell (p := ⟨nb, nof + J, none⟩) hnb).trans (hnc J m hm)
          have HSp := hide (edgesJ_step hm)
          have hlen := HLn2.out J
          have hy9 := HW.out.size
          clear hnc hm
          go_wp2_with (at_builtin; refine wpList_append_own_at _ rfl (.tmp 22) (.tmp 26) 57 rfl w1.heap.size 61 i6 _ 2 16 Tryz.underlying57 hi6 hz0 hz1 hz2 rfl (by decide) _ _ _ rfl (HO.out.alloc _) ⟨wr.heap.size, 0, none⟩ 1 1 [.int .i64 K, .int .i64 m] rfl rfl two_cell two_one (by unfold maxLen; omega) (by omega) (by simp; omega) ?_; intro v5 w5 own5 grow5 _ at5; refine Hid.out ?_)
          have HE : Hid (w5.ownsRow w1.heap.size 61 2 v5 (edgesJ f K (J + 1)).length (pairsC (edgesJ f K (J + 1))) ∧ Below w1.heap.size w1 w5) := hide ⟨by
            rw [HSp.out, pairsC_snoc, List.length_append]
            exact own5, Below.grown (HW.out.alloc hy9 _) grow5 (by simp; omega) (fun j hj => (HO.out.lt j hj).1)⟩
          obtain ⟨vo, vc, rfl⟩ := own_len own5
          clear own5 grow5 at5 c1
          refine hide ?_
          go_wp2_with fail
          go_roundw
          case rel => exact ⟨J + 1, by omega, by go_num, hide HE.out.1, hide HE.out.2⟩
          case measure => simp [intOf]; omega
        · obtain rfl : J = (nextF f K).length := by omega
          have HE : Hid (wr.ownsRow w1.heap.size 61 2 (.slice lo (edgesJ f K (nextF f K).length).length lc) (edgesK f (K + 1)).length (pairsC (edgesK f (K + 1)))) := hide (by rw [← HE9.out]; exact HO.out)
          go_wp2_with fail
          go_roundw
          case rel => exact ⟨K + 1, by omega, by go_num, HE, HW⟩
          case measure => simp [intOf]; omega
    · obtain rfl : K = lbs := by omega
      have HE : Hid (PairsV wr (edgesF f) (.slice lo (edgesK f K).length lc) ∧ Below w.heap.size w wr) := hide ⟨by rw [HEnd.out]; exact pairs_read HO.out, below_step B1.out HW.out⟩
      go_wp2_with fail
      go_ret
      exact ⟨_, rfl, HE.out.1, HE.out.2⟩
end Go.Proofs.YtmiplohoclckcaaGreat
