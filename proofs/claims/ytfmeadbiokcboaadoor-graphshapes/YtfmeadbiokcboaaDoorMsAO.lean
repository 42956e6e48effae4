/- Layer 8, the program: which blocks are reached along edges. Layer 8: what calls hand back, as properties that stay when memory grows. Layer 6, the reference's reader, where nothing is wrong: its words; one word is looked at, or taken. -/
import Derived.Test.YtfmeadbiokcboaaDoorMsAA
import Derived.Test.YtfmeadbiokcboaaDoorMsAB
import Derived.Test.YtfmeadbiokcboaaDoorMsAC
import Derived.Test.YtfmeadbiokcboaaDoorMsAF
import Derived.Test.YtfmeadbiokcboaaDoorMsAG
import Derived.Test.YtfmeadbiokcboaaDoorMsAJ
import Derived.Test.YtfmeadbiokcboaaDoorMsAM
import Derived.Test.YtfmeadbiokcboaaDoorMsAN
namespace Go.Proofs.YtfmeadbiokcboaaDoor
open Go Go.RowKit
open G (Tok Er Ins Fun)
/-- Of each number, whether it is one of a list. -/
def bitsOf (n : Nat) (met : List Int) : List Bool := (List.range n).map fun (b : Nat) => hasL met b
theorem bitsOf_at {n b : Nat} {met : List Int} (h : b < n) : (bitsOf n met)[b]? = some (hasL met b) := by
  unfold bitsOf; rw [List.getElem?_map, List.getElem?_range h]; rfl
theorem bitsOf_nil (n : Nat) : bitsOf n [] = List.replicate n false := by
  apply List.ext_getElem?
  intro j
  rw [List.getElem?_replicate]
  by_cases h : j < n
  · rw [bitsOf_at h, if_pos h]; rfl
  · rw [if_neg h, List.getElem?_eq_none (by simpa [bitsOf] using h)]
theorem bitsOf_snoc {n M : Nat} {met : List Int} (hM : M < n) : (bitsOf n met).set M true = bitsOf n (met ++ [(M : Int)]) := by
  apply List.ext_getElem?
  intro j
  rw [List.getElem?_set]
  have hl : ∀ met, (bitsOf n met).length = n := fun met => by simp [bitsOf]
  rw [hl]
  by_cases h : j < n
  · rw [bitsOf_at h, bitsOf_at h, hasL_snoc]
    by_cases e : M = j
    · subst e; rw [if_pos rfl, if_pos hM]; simp
    · have e2 : ¬ (M : Int) = (j : Int) := by omega
      rw [if_neg e]; simp [e2]
  · rw [List.getElem?_eq_none (by rw [hl]; omega), List.getElem?_eq_none (by rw [hl]; omega)]
    by_cases e : M = j
    · omega
    · rw [if_neg e]
/-- Reached under way: three boxes, the row of those that were met, and their list. -/
def ReW (W : World) (B g1 gm gb gl n : Nat) (but : Int) (met : List Int) (wr : World) : Prop := ∃ lv, wr.heap[gm]? = some (.cells #[.slice (some ⟨g1, 0, none⟩) n n] 46 (0, 0)) ∧ wr.heap[gb]? = some (.cells #[.int .i64 but] 3 (0, 0)) ∧ wr.heap[gl]? = some (.cells #[lv] 22 (0, 0)) ∧
  RowAt wr W.heap.size 4 g1 n (bools (bitsOf n met)) ∧ wr.ownsRow B 3 1 lv met.length (ints met) ∧ NumD n met ∧ Below W.heap.size W wr ∧ B ≤ wr.heap.size
/-- Where the boxes and the row lie. -/
def ReB (W : World) (B g1 gm gb gl : Nat) : Prop := W.heap.size ≤ gb ∧ gb < g1 ∧ g1 < gm ∧ gm < gl ∧ gl < B
theorem box1 {w : World} {c : Nat} {a : Value} {t : TypeId} (h : w.heap[c]? = some (.cells #[a] t (0, 0))) : w.cell? ⟨c, 0, none⟩ = some a ∧ w.frozen? ⟨c, 0, none⟩ = false := by
  simp [World.cell?, World.frozen?, h]
set_option maxHeartbeats 8000000 in
set_option maxRecDepth 20000 in
theorem meet_any (W : World) (B g1 gm gb gl n : Nat) (but : Int) (met l : List Int) (lo : Option Addr) (lc : Nat) (w : World) (hp : ReB W B g1 gm gb gl) (h : ReW W B g1 gm gb gl n but met w) (hs : Sl W lo l) (hn : n ≤ 1000000) (hnl : Num n l) (hll : l.length ≤ 1000000) :
    Calls Tryd.prog 37 #[.slice lo l.length lc, .pointer (some ⟨gm, 0, none⟩), .pointer (some ⟨gb, 0, none⟩), .pointer (some ⟨gl, 0, none⟩)] w fun e w' => e = .returned (.tuple #[]) ∧ ReW W B g1 gm gb gl n but (addsB but met l) w' := by
  obtain ⟨i3, hi3, hz3, hz4, hz5⟩ := info_parts Tryd.info3
  obtain ⟨p1, p2, p3, p4, p5⟩ := hp
  have HS := hide hs
  have HNl := hide hnl
  have HR0 : Hid (ReW W B g1 gm gb gl n but (addsB but met (l.take 0)) w) := hide h
  have HN0 : Hid (NumD n met) := hide (by obtain ⟨_, _, _, _, _, _, h, _⟩ := h; exact h)
  clear hs h hnl
  go_enter Tryd.func37, Tryd.ntmps37
  go_wp2_with fail
  go_loopw [9] (fun i wr => ∃ J : Nat, J ≤ l.length ∧ i = .int .i64 J ∧ Hid (ReW W B g1 gm gb gl n but (addsB but met (l.take J)) wr)) (fun i _ => l.length - (intOf i).toNat)
  case atStart => exact ⟨0, Nat.zero_le _, rfl, HR0⟩
  case round =>
    clear HR0
    obtain ⟨J, hJ, rfl, HR⟩ := hrel
    by_cases hjt : J < l.length
    · have hjI : (J : Int) < l.length := by omega
      obtain ⟨m, hm⟩ : ∃ m, l[J]? = some m := ⟨_, List.getElem?_eq_getElem hjt⟩
      obtain ⟨hm0, hm1⟩ := HNl.out m (List.mem_of_getElem? hm)
      obtain ⟨M, rfl⟩ : ∃ M : Nat, m = (M : Int) := ⟨m.toNat, by omega⟩
      have hMn : M < n := by omega
      have HTk := hide (addsB_take (but := but) (met := met) hm)
      generalize addsB but met (l.take J) = me at *
      obtain ⟨lv, q1, q2, q3, q4, q5, q6, q7, q8⟩ := HR.out
      rcases HS.out with e0 | ⟨tb, to2, rfl, t1, t2⟩
      · subst e0; simp at hjt
      have c9 := (q7.cell (p := ⟨tb, to2 + J, none⟩) t1).trans (t2 J _ hm)
      have c1 := (box1 q1).1
      have c2 := (box1 q2).1
      have c3 := (box1 q3).1
      have c4 := q4.cell (bools_at (bitsOf_at hMn))
      have z4 := q4.frozen M
      have HTh := hide (there_any M n wr)
      have hth : thereB M n = true := by simp [thereB]; omega
      rw [hth] at HTh
      have hml : me.length ≤ n := fit_len _ _ q6.1 q6.2
      have Q1 := hide q1
      have Q2 := hide q2
      have Q3 := hide q3
      have Q4 := hide q4
      have Q5 := hide q5
      have Q6 := hide q6
      have Q7 := hide q7
      clear t2 hm hth q1 q2 q3 q4 q5 q6 q7
      by_cases hmb : (M : Int) = but
      · have hmn : ((M : Int) != but) = false := by simpa using hmb
        have HE : Hid (ReW W B g1 gm gb gl n but (addsB but met (l.take (J + 1))) wr) := hide (by rw [HTk.out, addB_but hmb]; exact HR.out)
        replace hmb := hide hmb
        go_wp2_with fail
        refine HTh.out.mono ?_; rintro e wA ⟨rfl, rfl⟩
        go_wp2_with fail
        go_roundw
        case rel => exact ⟨J + 1, by omega, by go_num, HE⟩
        case measure => simp [intOf]; omega
      · have hmn : ((M : Int) != but) = true := by simpa using hmb
        cases hh : hasL me M with
        | true =>
          have HE : Hid (ReW W B g1 gm gb gl n but (addsB but met (l.take (J + 1))) wr) := hide (by rw [HTk.out, addB_has hmb hh]; exact HR.out)
          rw [hh] at c4
          replace hh := hide hh
          replace hmb := hide hmb
          go_wp2_with fail
          refine HTh.out.mono ?_; rintro e wA ⟨rfl, rfl⟩
          go_wp2_with fail
          go_roundw
          case rel => exact ⟨J + 1, by omega, by go_num, HE⟩
          case measure => simp [intOf]; omega
        | false =>
          have HA := hide (HTk.out.trans (addB_new hmb hh))
          have HND : Hid (NumD n (me ++ [(M : Int)])) := hide (by have := Q6.out.addB but (m := (M : Int)) ⟨hm0, by omega⟩; rwa [addB_new hmb hh] at this)
          rw [hh] at c4
          replace hh := hide hh
          replace hmb := hide hmb
          go_upto_region 5 with (go_at_call 31; refine HTh.out.mono ?_; rintro e wA ⟨rfl, rfl⟩)
          show Code.wp _ _ _ _ (wA.setCell ⟨g1, M, none⟩ (.bool true))
          replace Q1 : Hid ((wA.setCell ⟨g1, M, none⟩ (.bool true)).heap[gm]? = _) := hide ((Below.heap_setCell wA ⟨g1, M, none⟩ _ gm (by show gm ≠ g1; omega)).trans Q1.out)
          replace Q2 : Hid ((wA.setCell ⟨g1, M, none⟩ (.bool true)).heap[gb]? = _) := hide ((Below.heap_setCell wA ⟨g1, M, none⟩ _ gb (by show gb ≠ g1; omega)).trans Q2.out)
          replace Q3 : Hid ((wA.setCell ⟨g1, M, none⟩ (.bool true)).heap[gl]? = _) := hide ((Below.heap_setCell wA ⟨g1, M, none⟩ _ gl (by show gl ≠ g1; omega)).trans Q3.out)
          replace Q4 : Hid (RowAt (wA.setCell ⟨g1, M, none⟩ (.bool true)) W.heap.size 4 g1 n (bools (bitsOf n (me ++ [(M : Int)])))) := hide (by rw [← bitsOf_snoc hMn, ← bools_set]; exact Q4.out.set M _)
          replace Q5 : Hid ((wA.setCell ⟨g1, M, none⟩ (.bool true)).ownsRow B 3 1 lv me.length (ints me)) := hide (ownsRow_setCell_below Q5.out (a := ⟨g1, M, none⟩) (by show g1 < B; omega) _)
          replace Q7 : Hid (Below W.heap.size W (wA.setCell ⟨g1, M, none⟩ (.bool true))) := hide (Q7.out.setCell (p := ⟨g1, M, none⟩) (by show W.heap.size ≤ g1; omega) _)
          replace q8 : B ≤ (wA.setCell ⟨g1, M, none⟩ (.bool true)).heap.size := by simpa using q8
          clear c1 c2 c3 c4 c9 z4 HR
          generalize wA.setCell ⟨g1, M, none⟩ (.bool true) = wS at *
          have c3 := (box1 Q3.out).1
          obtain ⟨uo, uc, rfl⟩ := own_len Q5.out
          go_wp2_with (at_builtin; refine wpList_append_own_at _ rfl (.tmp 32) (.tmp 34) 22 rfl B 3 i3 _ 1 8 Tryd.underlying22 hi3 hz3 hz4 hz5 rfl (by decide) _ _ _ rfl (Q5.out.alloc _) ⟨wS.heap.size, 0, none⟩ 1 1 [.int .i64 M] rfl rfl one_cell one_one (by unfold maxLen; omega) (by omega) (by simp; omega) ?_; intro v2 wB own2 grow2 _ at2; refine Hid.out ?_)
          have far : ∀ g, g < B → some g ≠ (Value.slice uo me.length uc).ownBlock := fun g hg e => by have := (Q5.out.lt g e.symm).1; omega
          have old : ∀ g, g < B → wB.heap[g]? = wS.heap[g]? := fun g hg => (grow2.block g (by simp; omega) (far g hg)).trans (Below.heap_alloc wS _ g (by omega))
          have P3 : Hid (wB.heap[gl]? = some (.cells #[.slice uo me.length uc] 22 (0, 0))) := hide ((old gl p5).trans Q3.out)
          have P4 : Hid (RowAt wB W.heap.size 4 g1 n (bools (bitsOf n (me ++ [(M : Int)])))) := hide ((Q4.out.alloc _).kept grow2 (far g1 (by omega)))
          have P7 : Hid (Below W.heap.size W wB) := hide (Below.grown (Q7.out.alloc Q7.out.size _) grow2 (by have := Q7.out.size; simp; omega) (fun k hk => by have := (Q5.out.lt k hk).1; omega))
          have P8 : B ≤ wB.heap.size := by have := grow2.size; simp at this; omega
          have HE : Hid (ReW W B g1 gm gb gl n but (addsB but met (l.take (J + 1))) (wB.setCell ⟨gl, 0, none⟩ v2)) := hide (by
            rw [HA.out]
            refine ⟨v2, ?_, ?_, ?_, P4.out.other (p := ⟨gl, 0, none⟩) (by show g1 ≠ gl; omega) _, ?_, HND.out, P7.out.setCell (p := ⟨gl, 0, none⟩) (by show W.heap.size ≤ gl; omega) _, by simpa using P8⟩
            · exact (Below.heap_setCell wB ⟨gl, 0, none⟩ _ gm (by show gm ≠ gl; omega)).trans ((old gm (by omega)).trans Q1.out)
            · exact (Below.heap_setCell wB ⟨gl, 0, none⟩ _ gb (by show gb ≠ gl; omega)).trans ((old gb (by omega)).trans Q2.out)
            · have := heap_setCell_same wB gl 0 #[.slice uo me.length uc] 22 v2 P3.out
              simpa using this
            · have e : (me ++ [(M : Int)]).length = me.length + 1 := by simp
              rw [e]
              refine ownsRow_setCell_below (a := ⟨gl, 0, none⟩) ?_ (by show gl < B; omega) _
              simpa [ints] using own2)
          obtain ⟨vo, vc, rfl⟩ := own_len own2
          have k2 := (box1 P3.out).1
          have k3 := (box1 P3.out).2
          clear own2 grow2 at2 far old P3 P4 P7 Q1 Q2 Q3 Q4 Q5 Q6 Q7 c3
          refine hide ?_
          go_wp2_with fail
          go_roundw
          case rel => exact ⟨J + 1, by omega, by go_num, HE⟩
          case measure => simp [intOf]; omega
    · obtain rfl : J = l.length := by omega
      have HE : Hid (ReW W B g1 gm gb gl n but (addsB but met l) wr) := hide (by have := HR.out; rwa [List.take_length] at this)
      go_wp2_with fail
      go_end0
      exact ⟨rfl, HE.out⟩
set_option maxHeartbeats 8000000 in
set_option maxRecDepth 20000 in
theorem reached_any (ll : List (List Int)) (frm : List Int) (but : Int) (eo fo : Option Addr) (ec fc : Nat) (w : World) (he : RowsR w eo ll) (hf : Sl w fo frm) (hel : ll.length ≤ 1000000) (hfl : frm.length ≤ 1000000) (hfn : Num ll.length frm) (hen : ∀ l ∈ ll, Num ll.length l) (hell : ∀ l ∈ ll, l.length ≤ 1000000) :
    Calls Tryd.prog 24 #[.slice eo ll.length ec, .slice fo frm.length fc, .int .i64 but] w fun e w' => ∃ g, e = .returned (.slice (some ⟨g, 0, none⟩) ll.length ll.length) ∧ RowAt w' w.heap.size 4 g ll.length (bools (bitsOf ll.length (metE ll frm but))) ∧ Below w.heap.size w w' := by
  have hmf : ∀ (fn : Fn) (first cap : Array Value) (w : World), (Instr.makeFunc fn first cap).run Tryd.prog w = .ok (.func fn first cap) w := fun _ _ _ _ => rfl
  obtain ⟨i4, hi4, hy0, hy1, hy2⟩ := info_parts Tryd.info4
  have HEd := hide he
  have HFr := hide hf
  have HFn := hide hfn
  have HEn := hide hen
  have HEl := hide hell
  have B0 := hide (below_box w (.cells #[.int .i64 but] 3))
  have H0 := hide (heap_alloc_new w (.cells #[.int .i64 but] 3))
  have hz0 : w.heap.size < (w.alloc (.cells #[.int .i64 but] 3)).heap.size := by simp
  clear he hf hfn hen hell
  go_enter Tryd.func24, Tryd.ntmps24
  go_upto_region 1 with fail
  show Code.wp _ _ _ _ (w.alloc (.cells #[.int .i64 but] 3))
  generalize w.alloc (.cells #[.int .i64 but] 3) = w0 at *
  go_upto_region 2 with (at_make; refine wpList_make_full _ rfl _ _ 46 rfl w.heap.size 4 i4 _ 1 Tryd.underlying46 hi4 hy0 hy1 .i64 .i64 ll.length ll.length ll.length rfl rfl rfl rfl (by rw [hy2]; omega) (by unfold maxLen; omega) (Nat.le_of_lt hz0) ?_; intro w1 own1 grow1; refine Hid.out ?_)
  rw [made_bools] at own1
  have R1 : Hid (RowAt w1 w.heap.size 4 w0.heap.size ll.length (bools (bitsOf ll.length []))) := hide (by rw [bitsOf_nil]; exact own1)
  have b1 := grown_b grow1
  have H1 := hide ((b1.block _ hz0).trans H0.out)
  have B1 := hide (below_step B0.out b1)
  have hz1 : w0.heap.size < w1.heap.size := R1.out.lt.2
  clear own1 grow1 b1 H0
  refine hide ?_
  go_upto_region 4 with fail
  show Code.wp _ _ _ _ ((w1.alloc (.cells #[.slice (some ⟨w0.heap.size, 0, none⟩) ll.length ll.length] 46)).alloc (.cells #[.slice none 0 0] 22))
  have b2 := below_box w1 (.cells #[.slice (some ⟨w0.heap.size, 0, none⟩) ll.length ll.length] 46)
  have b3 := below_box (w1.alloc (.cells #[.slice (some ⟨w0.heap.size, 0, none⟩) ll.length ll.length] 46)) (.cells #[.slice none 0 0] 22)
  have b23 := below_step b2 b3
  have hsz : (w1.alloc (.cells #[.slice (some ⟨w0.heap.size, 0, none⟩) ll.length ll.length] 46)).heap.size = w1.heap.size + 1 := by simp
  have hsz3 : ((w1.alloc (.cells #[.slice (some ⟨w0.heap.size, 0, none⟩) ll.length ll.length] 46)).alloc (.cells #[.slice none 0 0] 22)).heap.size = w1.heap.size + 2 := by simp
  have HRW : Hid (ReW w (w1.heap.size + 2) w0.heap.size w1.heap.size w.heap.size (w1.heap.size + 1) ll.length but [] ((w1.alloc (.cells #[.slice (some ⟨w0.heap.size, 0, none⟩) ll.length ll.length] 46)).alloc (.cells #[.slice none 0 0] 22))) := hide (by
    refine ⟨.slice none 0 0, ?_, ?_, ?_, R1.out.below b23, World.ownsRow_nil _ _ _ _, NumD.nil _, below_step B1.out b23, by rw [hsz3]; exact Nat.le_refl _⟩
    · exact (b3.block _ (by rw [hsz]; omega)).trans (heap_alloc_new w1 _)
    · exact (b23.block _ (by omega)).trans H1.out
    · have := heap_alloc_new (w1.alloc (.cells #[.slice (some ⟨w0.heap.size, 0, none⟩) ll.length ll.length] 46)) (.cells #[.slice none 0 0] 22)
      rwa [hsz] at this)
  have HPB : Hid (ReB w (w1.heap.size + 2) w0.heap.size w1.heap.size w.heap.size (w1.heap.size + 1)) := hide ⟨Nat.le_refl _, hz0, hz1, by omega, by omega⟩
  clear b2 b3 b23 hsz hsz3 R1 H1 B1
  generalize (w1.alloc (.cells #[.slice (some ⟨w0.heap.size, 0, none⟩) ll.length ll.length] 46)).alloc (.cells #[.slice none 0 0] 22) = w3 at *
  have HM := hide (meet_any w _ _ _ _ _ ll.length but [] frm fo fc w3 HPB.out HRW.out HFr.out hel HFn.out hfl)
  clear hz0 hz1 B0
  go_wp2_with fail
  refine HM.out.mono ?_; rintro e w4 ⟨rfl, hr4⟩
  have HR4 : Hid (ReW w (w1.heap.size + 2) w0.heap.size w1.heap.size w.heap.size (w1.heap.size + 1) ll.length but (addsB but [] frm) w4) := hide hr4
  have HME : Hid (growE ll but (ll.length + 1 - 0) 0 (addsB but [] frm) = metE ll frm but) := hide rfl
  clear hr4 HM HRW HFr HFn
  go_wp2_with fail
  go_loopw [20] (fun i wr => ∃ (I : Nat) (met : List Int), I ≤ ll.length ∧ I ≤ met.length ∧ i = .int .i64 I ∧ Hid (ReW w (w1.heap.size + 2) w0.heap.size w1.heap.size w.heap.size (w1.heap.size + 1) ll.length but met wr) ∧ Hid (growE ll but (ll.length + 1 - I) I met = metE ll frm but)) (fun i _ => ll.length - (intOf i).toNat)
  case atStart => exact ⟨0, _, Nat.zero_le _, Nat.zero_le _, rfl, HR4, HME⟩
  case round =>
    clear HR4 HME
    obtain ⟨I, met, hI, hIm, rfl, HR, HME⟩ := hrel
    obtain ⟨lv, q1, q2, q3, q4, q5, q6, q7, q8⟩ := HR.out
    have hml : met.length ≤ ll.length := fit_len _ _ q6.1 q6.2
    have c1 := (box1 q1).1
    have c3 := (box1 q3).1
    obtain ⟨uo, uc, rfl⟩ := own_len q5
    have HQ4 := hide q4
    have HQ7 := hide q7
    by_cases hend : I = met.length
    · have HEM : Hid (met = metE ll frm but) := hide (by have := HME.out; rwa [growE_end (by omega)] at this)
      have HE : Hid (RowAt wr w.heap.size 4 w0.heap.size ll.length (bools (bitsOf ll.length (metE ll frm but))) ∧ Below w.heap.size w wr) := hide (by
        rw [← HEM.out]; exact ⟨HQ4.out, HQ7.out⟩)
      have hbe : ((I : Int) == (met.length : Int)) = true := beq_iff_eq.2 (by omega)
      clear q1 q2 q3 q4 q5 q6 q7 hend
      by_cases hit : I < ll.length
      · have hiI : (I : Int) < ll.length := by omega
        go_wp2_with fail
        go_ret
        exact ⟨_, rfl, HE.out.1, HE.out.2⟩
      · have hiI : ¬ (I : Int) < ll.length := by omega
        go_wp2_with fail
        go_ret
        exact ⟨_, rfl, HE.out.1, HE.out.2⟩
    · have hit : I < met.length := by omega
      have hiI : (I : Int) < ll.length := by omega
      have hbe : ((I : Int) == (met.length : Int)) = false := beq_eq_false_iff_ne.2 (by omega)
      obtain ⟨m, hm⟩ : ∃ m, met[I]? = some m := ⟨met[I], List.getElem?_eq_getElem hit⟩
      obtain ⟨hm0, hm1⟩ := q6.2 m (List.mem_of_getElem? hm)
      obtain ⟨M, rfl⟩ : ∃ M : Nat, m = (M : Int) := ⟨m.toNat, by omega⟩
      have hMl : M < ll.length := by omega
      obtain ⟨l, hl⟩ : ∃ l, ll[M]? = some l := ⟨ll[M], List.getElem?_eq_getElem hMl⟩
      have HMs : Hid (growE ll but (ll.length + 1 - (I + 1)) (I + 1) (addsB but met l) = metE ll frm but) := hide (by
        have e := HME.out
        rw [show ll.length + 1 - I = (ll.length + 1 - (I + 1)) + 1 by omega, growE_step hm] at e
        rw [← e, Int.toNat_natCast, List.getD_eq_getElem?_getD, hl]; rfl)
      have HLn := hide (HEn.out l (List.mem_of_getElem? hl))
      have hll := HEl.out l (List.mem_of_getElem? hl)
      rcases HEd.out with e0 | ⟨eb, eo2, rfl, d1, d2⟩
      · subst e0; simp at hMl
      obtain ⟨_, k1, ⟨lo, lc, rfl, k2, k3, k4⟩⟩ := d2 M l hl
      have c2 := (q7.cell (p := ⟨eb, eo2 + M, none⟩) d1).trans k1
      obtain ⟨gq, rfl, c5, _⟩ := own_cell q5 hm
      have hge : met.length ≤ (addsB but met l).length := addsB_len _ _ _
      have HM := hide (meet_any w _ _ _ _ _ ll.length but met l lo lc wr HPB.out HR.out k2 hel HLn.out hll)
      have hitI : (I : Int) < met.length := by omega
      clear q1 q2 q3 q4 q5 q6 q7 d2 k1 k2 hm hl hend
      go_wp2_with fail
      refine HM.out.mono ?_; rintro e w5 ⟨rfl, hr5⟩
      have HR5 : Hid (ReW w (w1.heap.size + 2) w0.heap.size w1.heap.size w.heap.size (w1.heap.size + 1) ll.length but (addsB but met l) w5) := hide hr5
      clear hr5 HM c1 c2 c3 c5
      go_wp2_with fail
      go_roundw
      case rel => exact ⟨I + 1, _, by omega, by omega, by go_num, HR5, HMs⟩
      case measure => simp [intOf]; omega
end Go.Proofs.YtfmeadbiokcboaaDoor
namespace Go.Proofs.YtfmeadbiokcboaaDoor
open Go Go.RowKit
open G (Tok Er Ins Fun)
open Mix (Up)
/-- Pairs that lie one by one. -/
def PairsV (w : World) (l : List (Int × Int)) (v : Value) : Prop := ∃ ao c, v = .slice ao l.length c ∧ (l = [] ∨ ∃ b, ao = some ⟨b, 0, none⟩ ∧ b < w.heap.size ∧ ∀ (i : Nat) (p : Int × Int), l[i]? = some p → w.cell? ⟨b, i * 2, none⟩ = some (.int .i64 p.1) ∧ w.cell? ⟨b, i * 2 + 1, none⟩ = some (.int .i64 p.2)) ∧ l.length ≤ maxLen
theorem PairsV.below {w w' : World} {l : List (Int × Int)} {v : Value} (h : PairsV w l v) (hb : Below w.heap.size w w') : PairsV w' l v := by
  obtain ⟨ao, c, e, h1, h2⟩ := h
  refine ⟨ao, c, e, ?_, h2⟩
  rcases h1 with h1 | ⟨b, e2, hl, hc⟩
  · exact .inl h1
  · exact .inr ⟨b, e2, Nat.lt_of_lt_of_le hl hb.size, fun i p hi => ⟨(hb.cell (p := ⟨b, i * 2, none⟩) hl).trans (hc i p hi).1, (hb.cell (p := ⟨b, i * 2 + 1, none⟩) hl).trans (hc i p hi).2⟩⟩
theorem pairsC_at (l : List (Int × Int)) (i : Nat) (p : Int × Int) (h : l[i]? = some p) : (pairsC l)[i * 2]? = some (.int .i64 p.1) ∧ (pairsC l)[i * 2 + 1]? = some (.int .i64 p.2) := by
  induction l generalizing i with
  | nil => simp at h
  | cons q l ih =>
    cases i with
    | zero => simp at h; subst h; simp [pairsC]
    | succ i =>
      have e1 : (i + 1) * 2 = i * 2 + 2 := by omega
      have := ih i (by simpa using h)
      rw [e1]
      simpa [pairsC] using this
theorem pairs_read {B : Nat} {w : World} {l : List (Int × Int)} {v : Value} (h : w.ownsRow B 44 2 v l.length (pairsC l)) : PairsV w l v := by
  rcases own_view h with ⟨rfl, hn⟩ | ⟨g, cap, rfl, h1, h2, h3, h4, h5, h6⟩
  · have e : l = [] := List.length_eq_zero_iff.1 hn
    subst e
    exact ⟨none, 0, rfl, .inl rfl, Nat.zero_le _⟩
  · exact ⟨some ⟨g, 0, none⟩, cap, rfl, .inr ⟨g, rfl, h4, fun i p hi => ⟨h5 _ _ (pairsC_at l i p hi).1, h5 _ _ (pairsC_at l i p hi).2⟩⟩, Nat.le_trans h1 h2⟩
def Up.rows (ll : List (List Int)) : Up := ⟨fun v w => RowsV w ll v, fun _ _ _ b h => h.below b⟩
def Up.ints (l : List Int) : Up := ⟨fun v w => IntsV w l v, fun _ _ _ b h => h.below b⟩
def Up.pairs (l : List (Int × Int)) : Up := ⟨fun v w => PairsV w l v, fun _ _ _ b h => h.below b⟩
theorem calls_exist {P : Program} {f : FuncId} {args : Array Value} {w : World} {R : Ending → World → Prop} (h : Calls P f args w R) : ∃ e w', R e w' := by
  obtain ⟨e, w', _, h1, _⟩ := h []
  exact ⟨e, w', h1⟩
theorem valid_of {W : World} {F : Tmp → Up} {d : Tmp} {f : FuncId} {args : Array Value} (h : Calls Tryd.prog f args W fun e w' => ∃ v, e = .returned v ∧ Below W.heap.size W w' ∧ (F d).1 v w') : ∃ v, Mix.Valid W F (some d) v := by
  obtain ⟨e, w', v, _, b, hf⟩ := calls_exist h
  exact ⟨v, w', b, fun d' hd => by cases hd; exact hf⟩
theorem valid_eq {W : World} {F : Tmp → Up} {d : Tmp} (c : Value) (h : (F d).1 c W) : ∃ v, Mix.Valid W F (some d) v := ⟨c, W, Below.refl _ _, fun d' hd => by cases hd; exact h⟩
end Go.Proofs.YtfmeadbiokcboaaDoor
namespace Go.Proofs.YtfmeadbiokcboaaDoor
open Go Go.RowKit
open G (Tok Er Ins Fun peek0 peek1 atOf)
/-- All blocks but a are as they were. -/
def Kr (a : Nat) (w w' : World) : Prop := w'.os = w.os ∧ w'.tape = w.tape ∧ w'.output = w.output ∧ w.heap.size ≤ w'.heap.size ∧ ∀ k, k < w.heap.size → k ≠ a → w'.heap[k]? = w.heap[k]?
theorem Kr.refl (a : Nat) (w : World) : Kr a w w := ⟨rfl, rfl, rfl, Nat.le_refl _, fun _ _ _ => rfl⟩
theorem Kr.trans {a : Nat} {u v w : World} (h : Kr a u v) (k : Kr a v w) : Kr a u w :=
  ⟨k.1.trans h.1, k.2.1.trans h.2.1, k.2.2.1.trans h.2.2.1, Nat.le_trans h.2.2.2.1 k.2.2.2.1, fun i h1 h2 => (k.2.2.2.2 i (Nat.lt_of_lt_of_le h1 h.2.2.2.1) h2).trans (h.2.2.2.2 i h1 h2)⟩
theorem Kr.of_below {a : Nat} {u v : World} (h : Below u.heap.size u v) : Kr a u v := ⟨h.os, h.tape, h.output, h.size, fun i h1 _ => h.block i h1⟩
theorem Kr.size {a : Nat} {u v : World} (h : Kr a u v) : u.heap.size ≤ v.heap.size := h.2.2.2.1
theorem Kr.step {a : Nat} {u v w : World} (h : Kr a u v) (k : Below v.heap.size v w) : Kr a u w := h.trans (Kr.of_below k)
theorem Kr.below {a B : Nat} {u v : World} (h : Kr a u v) (ha : B ≤ a) (hB : B ≤ u.heap.size) : Below B u v := ⟨h.1, h.2.1, h.2.2.1, h.2.2.2.1, fun i h1 => h.2.2.2.2 i (by omega) (by omega)⟩
theorem Kr.set {a i : Nat} {u w : World} (h : Kr a u w) (x : Value) : Kr a u (w.setCell ⟨a, i, none⟩ x) := by
  have hb := (Below.refl 0 w).setCell (p := ⟨a, i, none⟩) (Nat.zero_le a) x
  exact h.trans ⟨hb.os, hb.tape, hb.output, hb.size, fun k _ h2 => Below.heap_setCell w ⟨a, i, none⟩ x k h2⟩
/-- The reference's reader at block a, where nothing was wrong; l are the words that are left. -/
def RR (a : Nat) (L : List Tok) (E : Int) (n : Nat) (l : List Tok) (w : World) : Prop :=
  ∃ v, w.heap[a]? = some (.cells #[v, .int .i64 ((L.length - l.length : Nat) : Int), .int .i64 E, .int .i64 (n : Int), .int .i64 0, .int .i64 0] 72 (0, 0)) ∧ w.ownsRow 0 77 2 v L.length (cellsK L) ∧ l <:+ L ∧ (L.length ≤ 131072 ∧ ∀ t ∈ L, t.1.length ≤ 65536) ∧ n ≤ 4096
theorem RR.lt {a : Nat} {L : List Tok} {E : Int} {n : Nat} {l : List Tok} {w : World} (h : RR a L E n l w) : a < w.heap.size := by
  obtain ⟨v, h1, _⟩ := h; exact (Array.getElem?_eq_some_iff.1 h1).1
theorem RR.keep {a : Nat} {L : List Tok} {E : Int} {n : Nat} {l : List Tok} {w w' : World} (h : RR a L E n l w) (hb : ∀ k, k < w.heap.size → w'.heap[k]? = w.heap[k]?) : RR a L E n l w' := by
  obtain ⟨v, h1, h2, h3⟩ := h
  refine ⟨v, (hb a (Array.getElem?_eq_some_iff.1 h1).1).trans h1, ⟨h2.1, ?_⟩, h3⟩
  rcases h2.2 with hn | ⟨g, cap, cur, hv2, hbb, hg, rest⟩
  · exact .inl hn
  · exact .inr ⟨g, cap, cur, hv2, hbb, (hb g (Array.getElem?_eq_some_iff.1 hg).1).trans hg, rest⟩
theorem RR.below {a : Nat} {L : List Tok} {E : Int} {n : Nat} {l : List Tok} {w w' : World} (h : RR a L E n l w) (b : Below w.heap.size w w') : RR a L E n l w' := h.keep fun k hk => b.block k hk
theorem RR.short {a : Nat} {L : List Tok} {E : Int} {n : Nat} {l : List Tok} {w : World} (h : RR a L E n l w) : (peek0 l).length ≤ 65536 ∧ (peek1 l).length ≤ 65536 := by
  obtain ⟨v, h1, h2, h5, h6, h7⟩ := h
  refine ⟨?_, ?_⟩
  · cases l with
    | nil => simp [peek0]
    | cons t r => exact h6.2 t (h5.subset (by simp))
  · match l, h5 with
    | [], _ => simp [peek1]
    | [_], _ => simp [peek1]
    | _ :: t :: r, h5 => exact h6.2 t (h5.subset (by simp))
theorem RR.cells {a : Nat} {L : List Tok} {E : Int} {n : Nat} {l : List Tok} {w : World} (h : RR a L E n l w) :
    ∃ ao cap, w.cell? ⟨a, 0, none⟩ = some (.slice ao L.length cap) ∧ w.cell? ⟨a, 1, none⟩ = some (.int .i64 ((L.length - l.length : Nat) : Int)) ∧ w.cell? ⟨a, 2, none⟩ = some (.int .i64 E) ∧ w.cell? ⟨a, 3, none⟩ = some (.int .i64 (n : Int)) ∧ w.cell? ⟨a, 4, none⟩ = some (.int .i64 0) ∧ w.cell? ⟨a, 5, none⟩ = some (.int .i64 0) ∧
      (∀ j, w.frozen? ⟨a, j, none⟩ = false) ∧ (L = [] ∨ ∃ g, ao = some ⟨g, 0, none⟩ ∧ ∀ j t, L[j]? = some t → w.cell? ⟨g, j * 2, none⟩ = some (.string (bs t.1)) ∧ w.cell? ⟨g, j * 2 + 1, none⟩ = some (.int .i64 t.2)) := by
  obtain ⟨v, h1, h2, h5, h6, h7⟩ := h
  rcases h2.2 with ⟨hv, hn⟩ | ⟨g, cap, cur, hv2, hbb, hg, hc1, hc2, hc3, hc4⟩
  · subst hv
    have e : L = [] := List.length_eq_zero_iff.1 hn
    subst e
    exact ⟨none, 0, by simp [World.cell?, h1], by simp [World.cell?, h1], by simp [World.cell?, h1], by simp [World.cell?, h1], by simp [World.cell?, h1], by simp [World.cell?, h1], fun j => by simp [World.frozen?, h1], .inl rfl⟩
  · subst hv2
    refine ⟨some ⟨g, 0, none⟩, cap, by simp [World.cell?, h1], by simp [World.cell?, h1], by simp [World.cell?, h1], by simp [World.cell?, h1], by simp [World.cell?, h1], by simp [World.cell?, h1], fun j => by simp [World.frozen?, h1], .inr ⟨g, rfl, fun j t hj => ?_⟩⟩
    have hc := h2.cells (g := g) rfl
    obtain ⟨k1, k2⟩ := cellsK_at L j t hj
    have e1 := hc _ _ k1
    have e2 := hc _ _ k2
    rw [Addr.add_lit, Nat.zero_add, Nat.mul_comm] at e1 e2
    exact ⟨e1, e2⟩
theorem RR.eat {a : Nat} {L : List Tok} {E : Int} {n : Nat} {l : List Tok} {w : World} (h : RR a L E n l w) (hl : l ≠ []) : RR a L E n l.tail (w.setCell ⟨a, 1, none⟩ (.int .i64 (((L.length - l.length : Nat) : Int) + 1))) := by
  obtain ⟨v, h1, h2, h5, h6, h7⟩ := h
  refine ⟨v, ?_, own_setCell h2 (own_ne h2 h1 (by decide)) _, (List.tail_suffix l).trans h5, h6, h7⟩
  rw [heap_setCell_same w a 1 _ 72 _ h1]
  have e : ((L.length - l.length : Nat) : Int) + 1 = ((L.length - l.tail.length : Nat) : Int) := by
    have := h5.length_le
    cases l with
    | nil => exact absurd rfl hl
    | cons t r => simp at *; omega
  rw [e]; rfl
theorem RR.kr {a : Nat} {w : World} (i : Nat) (x : Value) : Kr a w (w.setCell ⟨a, i, none⟩ x) := (Kr.refl a w).set x
/-- A word so far ahead. -/
def pk (i : Nat) (l : List Tok) : List UInt8 := match l[i]? with
  | some t => t.1
  | none => []
theorem pk0 (l : List Tok) : pk 0 l = peek0 l := by cases l <;> rfl
theorem pk1 (l : List Tok) : pk 1 l = peek1 l := by
  match l with
  | [] => rfl
  | [_] => rfl
  | _ :: t :: r => rfl
set_option maxHeartbeats 1000000 in
set_option maxRecDepth 20000 in
theorem rpeek (i : Nat) {a : Nat} {L : List Tok} {E : Int} {n : Nat} {l : List Tok} (w : World) (h : RR a L E n l w) (hi : i ≤ 1) :
    Calls Tryd.prog 52 #[.pointer (some ⟨a, 0, none⟩), .int .i64 i] w fun e w' => e = .returned (.string (bs (pk i l))) ∧ Below w.heap.size w w' := by
  obtain ⟨ao, cap, c0, c1, c2, c3, c4, c5, fz, hL⟩ := h.cells
  obtain ⟨v, h1, h2, h5, h6, h7⟩ := h
  have hLL := h6.1
  have hll := h5.length_le
  by_cases hlt : L.length - l.length + i < L.length
  · obtain ⟨t, ht⟩ : ∃ t, L[L.length - l.length + i]? = some t := ⟨_, List.getElem?_eq_getElem hlt⟩
    have HP : Hid (bs t.1 = bs (pk i l)) := hide (by
      have e := Rdr.word h5 i
      rw [ht] at e
      unfold pk; rw [← e])
    rcases hL with hL | ⟨g, rfl, hg⟩
    · subst hL; simp at hlt
    have hc := (hg _ t ht).1
    have hlt' : (((L.length - l.length : Nat) : Int) + (i : Int)) < L.length := by omega
    have hge : ¬ (L.length : Int) ≤ ((L.length - l.length : Nat) : Int) + (i : Int) := by omega
    have hidx : ((L.length - l.length : Nat) : Int) + (i : Int) = ((L.length - l.length + i : Nat) : Int) := by omega
    clear hg ht h1 h2 h5 h6 fz c2 c3 c5
    generalize L.length - l.length = q at *
    obtain ⟨m, hm⟩ : ∃ m : Nat, m = q + i := ⟨_, rfl⟩
    have hw : IntKind.i64.wrap ((q : Int) + (i : Int)) = (m : Int) := by rw [IntWalk.i64_in _ ⟨by omega, by omega⟩]; omega
    have hg1 : decide ((L.length : Int) ≤ (m : Int)) = false := by simp; omega
    have hm1 : (m : Int) < L.length := by omega
    have hm0 : (0 : Int) ≤ m := by omega
    rw [← hm] at hc
    clear hge hlt hm hlt' hidx
    go_enter Tryd.func52, Tryd.ntmps52
    go_wp2_with fail
    go_quiet (fail)
    go_wp2_with fail
    go_quiet (fail)
    go_wp2_with fail
    go_ret
    exact ⟨L5.ret_str HP.out, ⟨rfl, rfl, rfl, Nat.le_refl _, fun _ _ => rfl⟩⟩
  · have HP : Hid (bs [] = bs (pk i l)) := hide (by
      have e := Rdr.word h5 i
      rw [List.getElem?_eq_none (by omega)] at e
      unfold pk; rw [← e])
    have hge : (L.length : Int) ≤ ((L.length - l.length : Nat) : Int) + (i : Int) := by omega
    clear h1 h2 h5 h6 hL fz c2 c3 c5
    have hq : L.length - l.length ≤ L.length := by omega
    generalize L.length - l.length = q at *
    obtain ⟨m, hm⟩ : ∃ m : Nat, m = q + i := ⟨_, rfl⟩
    have hw : IntKind.i64.wrap ((q : Int) + (i : Int)) = (m : Int) := by rw [IntWalk.i64_in _ ⟨by omega, by omega⟩]; omega
    have hg1 : decide ((L.length : Int) ≤ (m : Int)) = true := by simp; omega
    have hg2 : (L.length : Int) ≤ (m : Int) := by omega
    have hg3 : L.length ≤ m := by omega
    clear hge hlt hm
    go_enter Tryd.func52, Tryd.ntmps52
    go_wp2_with fail
    go_quiet (fail)
    go_wp2_with fail
    go_ret
    exact ⟨L5.ret_str HP.out, ⟨rfl, rfl, rfl, Nat.le_refl _, fun _ _ => rfl⟩⟩
end Go.Proofs.YtfmeadbiokcboaaDoor
