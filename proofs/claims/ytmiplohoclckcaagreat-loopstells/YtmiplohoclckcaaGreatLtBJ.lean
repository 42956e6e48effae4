/- Layer 8, the program: which blocks are reached along edges. Layer 10, the program: the blocks that go back to a head, and the blocks of its loop. Layer 10, the program: whether a block is one of a loop's. -/
import Derived.Test.YtmiplohoclckcaaGreatLtAL
import Derived.Test.YtmiplohoclckcaaGreatLtBF
import Derived.Test.YtmiplohoclckcaaGreatLtBG
import Derived.Test.YtmiplohoclckcaaGreatLtBI
namespace Go.Proofs.YtmiplohoclckcaaGreat
open Go Go.RowKit
open G (Tok Er Ins Fun)
set_option maxHeartbeats 8000000 in
set_option maxRecDepth 20000 in
theorem gmeet_any (W : World) (B g1 gm gb gl n : Nat) (but : Int) (met l : List Int) (lo : Option Addr) (lc : Nat) (w : World) (hp : ReB W B g1 gm gb gl) (h : ReW W B g1 gm gb gl n but met w) (hs : Sl W lo l) (hn : n ≤ 1000000) (hnl : Num n l) (hll : l.length ≤ 1000000) :
    Calls Tryz.prog 67 #[.slice lo l.length lc, .pointer (some ⟨gm, 0, none⟩), .pointer (some ⟨gb, 0, none⟩), .pointer (some ⟨gl, 0, none⟩)] w fun e w' => e = .returned (.tuple #[]) ∧ ReW W B g1 gm gb gl n but (addsB but met l) w' := by
  obtain ⟨i3, hi3, hz3, hz4, hz5⟩ := info_parts Tryz.info3
  obtain ⟨p1, p2, p3, p4, p5⟩ := hp
  have HS := hide hs
  have HNl := hide hnl
  have HR0 : Hid (ReW W B g1 gm gb gl n but (addsB but met (l.take 0)) w) := hide h
  have HN0 : Hid (NumD n met) := hide (by obtain ⟨_, _, _, _, _, _, h, _⟩ := h; exact h)
  clear hs h hnl
  go_enter Tryz.func67, Tryz.ntmps67
  go_wp2_with fail
  go_loopw [9] (fun i wr => ∃ J : Nat, J ≤ l.length ∧ i = .int .i64 J ∧ Hid (ReW W B g1 gm gb gl n but (addsB but met (l.take J)) wr)) (fun i _ => l.length - (intOf i).toNat)
  case atStart => exact ⟨0, Nat.zero_le _, rfl, HR0⟩
  case round =>
    clear HR0
    obtain ⟨J, hJ, rfl, HR⟩ := hrel
    by_cases hjt : J < l.length
    · have hjI : (J : Int) < l.length := by omega
      obtain ⟨m, hm⟩ : ∃ m, l[J]? = some m := ⟨_, List.getElem?_eq_getElem hjt⟩
      obtain ⟨hm0, hm1⟩ := HNl.out m (List.mem_of_getElem? hm)
      obtain ⟨M, rfl⟩ : ∃ M : Nat, m = (M : Int) := ⟨m.toNat, by omega⟩
      have hMn : M < n := by omega
      have HTk := hide (addsB_take (but := but) (met := met) hm)
      generalize addsB but met (l.take J) = me at *
      obtain ⟨lv, q1, q2, q3, q4, q5, q6, q7, q8⟩ := HR.out
      rcases HS.out with e0 | ⟨tb, to2, rfl, t1, t2⟩
      · subst e0; simp at hjt
      have c9 := (q7.cell (p := ⟨tb, to2 + J, none⟩) t1).trans (t2 J _ hm)
      have c1 := (box1 q1).1
      have c2 := (box1 q2).1
      have c3 := (box1 q3).1
      have c4 := q4.cell (bools_at (bitsOf_at hMn))
      have z4 := q4.frozen M
      have HTh := hide (there_any M n wr)
      have hth : thereB M n = true := by simp [thereB]; omega
      rw [hth] at HTh
      have hml : me.length ≤ n := fit_len _ _ q6.1 q6.2
      have Q1 := hide q1
      have Q2 := hide q2
      have Q3 := hide q3
      have Q4 := hide q4
      have Q5 := hide q5
      have Q6 := hide q6
      have Q7 := hide q7
      clear t2 hm hth q1 q2 q3 q4 q5 q6 q7
      by_cases hmb : (M : Int) = but
      · have hmn : ((M : Int) != but) = false := by simpa using hmb
        have HE : Hid (ReW W B g1 gm gb gl n but (addsB but met (l.take (J + 1))) wr) := hide (by rw [HTk.out, addB_but hmb]; exact HR.out)
        replace hmb := hide hmb
        go_wp2_with fail
        refine HTh.out.mono ?_; rintro e wA ⟨rfl, rfl⟩
        go_wp2_with fail
        go_roundw
        case rel => exact ⟨J + 1, by omega, by go_num, HE⟩
        case measure => simp [intOf]; omega
      · have hmn : ((M : Int) != but) = true := by simpa using hmb
        cases hh : hasL me M with
        | true =>
          have HE : Hid (ReW W B g1 gm gb gl n but (addsB but met (l.take (J + 1))) wr) := hide (by rw [HTk.out, addB_has hmb hh]; exact HR.out)
          rw [hh] at c4
          replace hh := hide hh
          replace hmb := hide hmb
          go_wp2_with fail
          refine HTh.out.mono ?_; rintro e wA ⟨rfl, rfl⟩
          go_wp2_with fail
          go_roundw
          case rel => exact ⟨J + 1, by omega, by go_num, HE⟩
          case measure => simp [intOf]; omega
        | false =>
          have HA := hide (HTk.out.trans (addB_new hmb hh))
          have HND : Hid (NumD n (me ++ [(M : Int)])) := hide (by have := Q6.out.addB but (m := (M : Int)) ⟨hm0, by omega⟩; rwa [addB_new hmb hh] at this)
          rw [hh] at c4
          replace hh := hide hh
          replace hmb := hide hmb
          go_upto_region 5 with (go_at_call 65; refine HTh.out.mono ?_; rintro e wA ⟨rfl, rfl⟩)
          show Code.wp _ _ _ _ (wA.setCell ⟨g1, M, none⟩ (.bool true))
          replace Q1 : Hid ((wA.setCell ⟨g1, M, none⟩ (.bool true)).heap[gm]? = _) := hide ((Below.heap_setCell wA ⟨g1, M, none⟩ _ gm (by show gm ≠ g1; omega)).trans Q1.out)
          replace Q2 : Hid ((wA.setCell ⟨g1, M, none⟩ (.bool true)).heap[gb]? = _) := hide ((Below.heap_setCell wA ⟨g1, M, none⟩ _ gb (by show gb ≠ g1; omega)).trans Q2.out)
          replace Q3 : Hid ((wA.setCell ⟨g1, M, none⟩ (.bool true)).heap[gl]? = _) := hide ((Below.heap_setCell wA ⟨g1, M, none⟩ _ gl (by show gl ≠ g1; omega)).trans Q3.out)
          replace Q4 : Hid (RowAt (wA.setCell ⟨g1, M, none⟩ (.bool true)) W.heap.size 4 g1 n (bools (bitsOf n (me ++ [(M : Int)])))) := hide (by rw [← bitsOf_snoc hMn, ← bools_set]; exact Q4.out.set M _)
          replace Q5 : Hid ((wA.setCell ⟨g1, M, none⟩ (.bool true)).ownsRow B 3 1 lv me.length (ints me)) := hide (ownsRow_setCell_below Q5.out (a := ⟨g1, M, none⟩) (by show g1 < B; omega) _)
          replace Q7 : Hid (Below W.heap.size W (wA.setCell ⟨g1, M, none⟩ (.bool true))) := hide (Q7.out.setCell (p := ⟨g1, M, none⟩) (by show W.heap.size ≤ g1; omega) _)
          replace q8 : B ≤ (wA.setCell ⟨g1, M, none⟩ (.bool true)).heap.size := by simpa using q8
          clear c1 c2 c3 c4 c9 z4 HR
          generalize wA.setCell ⟨g1, M, none⟩ (.bool true) = wS at *
          have c3 := (box1 Q3.out).1
          obtain ⟨uo, uc, rfl⟩ := own_len Q5.out
          go_wp2_with (at_builtin; refine wpList_append_own_at _ rfl (.tmp 32) (.tmp 34) 22 rfl B 3 i3 _ 1 8 Tryz.underlying22 hi3 hz3 hz4 hz5 rfl (by decide) _ _ _ rfl (Q5.out.alloc _) ⟨wS.heap.size, 0, none⟩ 1 1 [.int .i64 M] rfl rfl one_cell one_one (by unfold maxLen; omega) (by omega) (by simp; omega) ?_; intro v2 wB own2 grow2 _ at2; refine Hid.out ?_)
          have far : ∀ g, g < B → some g ≠ (Value.slice uo me.length uc).ownBlock := fun g hg e => by have := (Q5.out.lt g e.symm).1; omega
          have old : ∀ g, g < B → wB.heap[g]? = wS.heap[g]? := fun g hg => (grow2.block g (by simp; omega) (far g hg)).trans (Below.heap_alloc wS _ g (by omega))
          have P3 : Hid (wB.heap[gl]? = some (.cells #[.slice uo me.length uc] 22 (0, 0))) := hide ((old gl p5).trans Q3.out)
          have P4 : Hid (RowAt wB W.heap.size 4 g1 n (bools (bitsOf n (me ++ [(M : Int)])))) := hide ((Q4.out.alloc _).kept grow2 (far g1 (by omega)))
          have P7 : Hid (Below W.heap.size W wB) := hide (Below.grown (Q7.out.alloc Q7.out.size _) grow2 (by have := Q7.out.size; simp; omega) (fun k hk => by have := (Q5.out.lt k hk).1; omega))
          have P8 : B ≤ wB.heap.size := by have := grow2.size; simp at this; omega
          have HE : Hid (ReW W B g1 gm gb gl n but (addsB but met (l.take (J + 1))) (wB.setCell ⟨gl, 0, none⟩ v2)) := hide (by
            rw [HA.out]
            refine ⟨v2, ?_, ?_, ?_, P4.out.other (p := ⟨gl, 0, none⟩) (by show g1 ≠ gl; omega) _, ?_, HND.out, P7.out.setCell (p := ⟨gl, 0, none⟩) (by show W.heap.size ≤ gl; omega) _, by simpa using P8⟩
            · exact (Below.heap_setCell wB ⟨gl, 0, none⟩ _ gm (by show gm ≠ gl; omega)).trans ((old gm (by omega)).trans Q1.out)
            · exact (Below.heap_setCell wB ⟨gl, 0, none⟩ _ gb (by show gb ≠ gl; omega)).trans ((old gb (by omega)).trans Q2.out)
            · have := heap_setCell_same wB gl 0 #[.slice uo me.length uc] 22 v2 P3.out
              simpa using this
            · have e : (me ++ [(M : Int)]).length = me.length + 1 := by simp
              rw [e]
              refine ownsRow_setCell_below (a := ⟨gl, 0, none⟩) ?_ (by show gl < B; omega) _
              simpa [ints] using own2)
          obtain ⟨vo, vc, rfl⟩ := own_len own2
          have k2 := (box1 P3.out).1
          have k3 := (box1 P3.out).2
          clear own2 grow2 at2 far old P3 P4 P7 Q1 Q2 Q3 Q4 Q5 Q6 Q7 c3
          refine hide ?_
          go_wp2_with fail
          go_roundw
          case rel => exact ⟨J + 1, by omega, by go_num, HE⟩
          case measure => simp [intOf]; omega
    · obtain rfl : J = l.length := by omega
      have HE : Hid (ReW W B g1 gm gb gl n but (addsB but met l) wr) := hide (by have := HR.out; rwa [List.take_length] at this)
      go_wp2_with fail
      go_end0
      exact ⟨rfl, HE.out⟩
set_option maxHeartbeats 8000000 in
set_option maxRecDepth 20000 in
theorem greached_any (ll : List (List Int)) (frm : List Int) (but : Int) (eo fo : Option Addr) (ec fc : Nat) (w : World) (he : RowsR w eo ll) (hf : Sl w fo frm) (hel : ll.length ≤ 1000000) (hfl : frm.length ≤ 1000000) (hfn : Num ll.length frm) (hen : ∀ l ∈ ll, Num ll.length l) (hell : ∀ l ∈ ll, l.length ≤ 1000000) :
    Calls Tryz.prog 49 #[.slice eo ll.length ec, .slice fo frm.length fc, .int .i64 but] w fun e w' => ∃ g, e = .returned (.slice (some ⟨g, 0, none⟩) ll.length ll.length) ∧ RowAt w' w.heap.size 4 g ll.length (bools (bitsOf ll.length (metE ll frm but))) ∧ Below w.heap.size w w' := by
  have hmf : ∀ (fn : Fn) (first cap : Array Value) (w : World), (Instr.makeFunc fn first cap).run Tryz.prog w = .ok (.func fn first cap) w := fun _ _ _ _ => rfl
  obtain ⟨i4, hi4, hy0, hy1, hy2⟩ := info_parts Tryz.info4
  have HEd := hide he
  have HFr := hide hf
  have HFn := hide hfn
  have HEn := hide hen
  have HEl := hide hell
  have B0 := hide (below_box w (.cells #[.int .i64 but] 3))
  have H0 := hide (heap_alloc_new w (.cells #[.int .i64 but] 3))
  have hz0 : w.heap.size < (w.alloc (.cells #[.int .i64 but] 3)).heap.size := by simp
  clear he hf hfn hen hell
  go_enter Tryz.func49, Tryz.ntmps49
  go_upto_region 1 with fail
  show Code.wp _ _ _ _ (w.alloc (.cells #[.int .i64 but] 3))
  generalize w.alloc (.cells #[.int .i64 but] 3) = w0 at *
  go_upto_region 2 with (at_make; refine wpList_make_full _ rfl _ _ 64 rfl w.heap.size 4 i4 _ 1 Tryz.underlying64 hi4 hy0 hy1 .i64 .i64 ll.length ll.length ll.length rfl rfl rfl rfl (by rw [hy2]; omega) (by unfold maxLen; omega) (Nat.le_of_lt hz0) ?_; intro w1 own1 grow1; refine Hid.out ?_)
  rw [made_bools] at own1
  have R1 : Hid (RowAt w1 w.heap.size 4 w0.heap.size ll.length (bools (bitsOf ll.length []))) := hide (by rw [bitsOf_nil]; exact own1)
  have b1 := grown_b grow1
  have H1 := hide ((b1.block _ hz0).trans H0.out)
  have B1 := hide (below_step B0.out b1)
  have hz1 : w0.heap.size < w1.heap.size := R1.out.lt.2
  clear own1 grow1 b1 H0
  refine hide ?_
  go_upto_region 4 with fail
  show Code.wp _ _ _ _ ((w1.alloc (.cells #[.slice (some ⟨w0.heap.size, 0, none⟩) ll.length ll.length] 64)).alloc (.cells #[.slice none 0 0] 22))
  have b2 := below_box w1 (.cells #[.slice (some ⟨w0.heap.size, 0, none⟩) ll.length ll.length] 64)
  have b3 := below_box (w1.alloc (.cells #[.slice (some ⟨w0.heap.size, 0, none⟩) ll.length ll.length] 64)) (.cells #[.slice none 0 0] 22)
  have b23 := below_step b2 b3
  have hsz : (w1.alloc (.cells #[.slice (some ⟨w0.heap.size, 0, none⟩) ll.length ll.length] 64)).heap.size = w1.heap.size + 1 := by simp
  have hsz3 : ((w1.alloc (.cells #[.slice (some ⟨w0.heap.size, 0, none⟩) ll.length ll.length] 64)).alloc (.cells #[.slice none 0 0] 22)).heap.size = w1.heap.size + 2 := by simp
  have HRW : Hid (ReW w (w1.heap.size + 2) w0.heap.size w1.heap.size w.heap.size (w1.heap.size + 1) ll.length but [] ((w1.alloc (.cells #[.slice (some ⟨w0.heap.size, 0, none⟩) ll.length ll.length] 64)).alloc (.cells #[.slice none 0 0] 22))) := hide (by
    refine ⟨.slice none 0 0, ?_, ?_, ?_, R1.out.below b23, World.ownsRow_nil _ _ _ _, NumD.nil _, below_step B1.out b23, by rw [hsz3]; exact Nat.le_refl _⟩
    · exact (b3.block _ (by rw [hsz]; omega)).trans (heap_alloc_new w1 _)
    · exact (b23.block _ (by omega)).trans H1.out
    · have := heap_alloc_new (w1.alloc (.cells #[.slice (some ⟨w0.heap.size, 0, none⟩) ll.length ll.length] 64)) (.cells #[.slice none 0 0] 22)
      rwa [hsz] at this)
  have HPB : Hid (ReB w (w1.heap.size + 2) w0.heap.size w1.heap.size w.heap.size (w1.heap.size + 1)) := hide ⟨Nat.le_refl _, hz0, hz1, by omega, by omega⟩
  clear b2 b3 b23 hsz hsz3 R1 H1 B1
  generalize (w1.alloc (.cells #[.slice (some ⟨w0.heap.size, 0, none⟩) ll.length ll.length] 64)).alloc (.cells #[.slice none 0 0] 22) = w3 at *
  have HM := hide (gmeet_any w _ _ _ _ _ ll.length but [] frm fo fc w3 HPB.out HRW.out HFr.out hel HFn.out hfl)
  clear hz0 hz1 B0
  go_wp2_with fail
  refine HM.out.mono ?_; rintro e w4 ⟨rfl, hr4⟩
  have HR4 : Hid (ReW w (w1.heap.size + 2) w0.heap.size w1.heap.size w.heap.size (w1.heap.size + 1) ll.length but (addsB but [] frm) w4) := hide hr4
  have HME : Hid (growE ll but (ll.length + 1 - 0) 0 (addsB but [] frm) = metE ll frm but) := hide rfl
  clear hr4 HM HRW HFr HFn
  go_wp2_with fail
  go_loopw [20] (fun i wr => ∃ (I : Nat) (met : List Int), I ≤ ll.length ∧ I ≤ met.length ∧ i = .int .i64 I ∧ Hid (ReW w (w1.heap.size + 2) w0.heap.size w1.heap.size w.heap.size (w1.heap.size + 1) ll.length but met wr) ∧ Hid (growE ll but (ll.length + 1 - I) I met = metE ll frm but)) (fun i _ => ll.length - (intOf i).toNat)
  case atStart => exact ⟨0, _, Nat.zero_le _, Nat.zero_le _, rfl, HR4, HME⟩
  case round =>
    clear HR4 HME
    obtain ⟨I, met, hI, hIm, rfl, HR, HME⟩ := hrel
    obtain ⟨lv, q1, q2, q3, q4, q5, q6, q7, q8⟩ := HR.out
    have hml : met.length ≤ ll.length := fit_len _ _ q6.1 q6.2
    have c1 := (box1 q1).1
    have c3 := (box1 q3).1
    obtain ⟨uo, uc, rfl⟩ := own_len q5
    have HQ4 := hide q4
    have HQ7 := hide q7
    by_cases hend : I = met.length
    · have HEM : Hid (met = metE ll frm but) := hide (by have := HME.out; rwa [growE_end (by omega)] at this)
      have HE : Hid (RowAt wr w.heap.size 4 w0.heap.size ll.length (bools (bitsOf ll.length (metE ll frm but))) ∧ Below w.heap.size w wr) := hide (by
        rw [← HEM.out]; exact ⟨HQ4.out, HQ7.out⟩)
      have hbe : ((I : Int) == (met.length : Int)) = true := beq_iff_eq.2 (by omega)
      clear q1 q2 q3 q4 q5 q6 q7 hend
      by_cases hit : I < ll.length
      · have hiI : (I : Int) < ll.length := by omega
        go_wp2_with fail
        go_ret
        exact ⟨_, rfl, HE.out.1, HE.out.2⟩
      · have hiI : ¬ (I : Int) < ll.length := by omega
        go_wp2_with fail
        go_ret
        exact ⟨_, rfl, HE.out.1, HE.out.2⟩
    · have hit : I < met.length := by omega
      have hiI : (I : Int) < ll.length := by omega
      have hbe : ((I : Int) == (met.length : Int)) = false := beq_eq_false_iff_ne.2 (by omega)
      obtain ⟨m, hm⟩ : ∃ m, met[I]? = some m := ⟨met[I], List.getElem?_eq_getElem hit⟩
      obtain ⟨hm0, hm1⟩ := q6.2 m (List.mem_of_getElem? hm)
      obtain ⟨M, rfl⟩ : ∃ M : Nat, m = (M : Int) := ⟨m.toNat, by omega⟩
      have hMl : M < ll.length := by omega
      obtain ⟨l, hl⟩ : ∃ l, ll[M]? = some l := ⟨ll[M], List.getElem?_eq_getElem hMl⟩
      have HMs : Hid (growE ll but (ll.length + 1 - (I + 1)) (I + 1) (addsB but met l) = metE ll frm but) := hide (by
        have e := HME.out
        rw [show ll.length + 1 - I = (ll.length + 1 - (I + 1)) + 1 by omega, growE_step hm] at e
        rw [← e, Int.toNat_natCast, List.getD_eq_getElem?_getD, hl]; rfl)
      have HLn := hide (HEn.out l (List.mem_of_getElem? hl))
      have hll := HEl.out l (List.mem_of_getElem? hl)
      rcases HEd.out with e0 | ⟨eb, eo2, rfl, d1, d2⟩
      · subst e0; simp at hMl
      obtain ⟨_, k1, ⟨lo, lc, rfl, k2, k3, k4⟩⟩ := d2 M l hl
      have c2 := (q7.cell (p := ⟨eb, eo2 + M, none⟩) d1).trans k1
      obtain ⟨gq, rfl, c5, _⟩ := own_cell q5 hm
      have hge : met.length ≤ (addsB but met l).length := addsB_len _ _ _
      have HM := hide (gmeet_any w _ _ _ _ _ ll.length but met l lo lc wr HPB.out HR.out k2 hel HLn.out hll)
      have hitI : (I : Int) < met.length := by omega
      clear q1 q2 q3 q4 q5 q6 q7 d2 k1 k2 hm hl hend
      go_wp2_with fail
      refine HM.out.mono ?_; rintro e w5 ⟨rfl, hr5⟩
      have HR5 : Hid (ReW w (w1.heap.size + 2) w0.heap.size w1.heap.size w.heap.size (w1.heap.size + 1) ll.length but (addsB but met l) w5) := hide hr5
      clear hr5 HM c1 c2 c3 c5
      go_wp2_with fail
      go_roundw
      case rel => exact ⟨I + 1, _, by omega, by omega, by go_num, HR5, HMs⟩
      case measure => simp [intOf]; omega
end Go.Proofs.YtmiplohoclckcaaGreat
namespace Go.Proofs.YtmiplohoclckcaaGreat
open Go Go.RowKit
open G (Tok Er Ins Fun)
theorem filt_more {l : List Int} (p : Int → Bool) {k : Nat} {m : Int} (h : l[k]? = some m) : (l.take (k + 1)).filter p = (l.take k).filter p ++ if p m then [m] else [] := by
  rw [take_more h, List.filter_append]
  cases hp : p m <;> simp [hp]
set_option maxHeartbeats 2000000 in
set_option maxRecDepth 20000 in
theorem below_any {ll : List (List Int)} {t ub uo db dd uc dc : Nat} (hg : Gr ll) (h : Int) (l : List Int) (bo : Option Addr) (bc : Nat) (w : World) (hT : TreeC w ll ll.length t ub uo db dd uc dc) (hs : Sl w bo l) (hl : l.length ≤ 1000000) :
    Calls Tryz.prog 26 #[.pointer (some ⟨t, 0, none⟩), .int .i64 h, .slice bo l.length bc] w fun e w' => ∃ u, e = .returned u ∧ Grw w (l.filter fun k => aheadB ll h k) u w' := by
  obtain ⟨i0, hi0, hz0, hz1, hz2⟩ := info_parts Tryz.info3
  have HS := hide hs
  have HA := hide (fun (b : Int) w2 (bl : Below w.heap.size w w2) => aheadT_any hg h b w2 (hT.below bl))
  clear hs hT hg
  go_enter Tryz.func26, Tryz.ntmps26
  go_wp2_with fail
  go_loopw [7, 12] (fun nv i wr => ∃ K : Nat, K ≤ l.length ∧ i = .int .i64 K ∧ Hid (Grw w ((l.take K).filter fun k => aheadB ll h k) nv wr)) (fun _ i _ => l.length - (intOf i).toNat)
  case atStart => exact ⟨0, Nat.zero_le _, rfl, hide (Grw.start _)⟩
  case round =>
    obtain ⟨K, hK, rfl, HG⟩ := hrel
    have hkl : ((l.take K).filter fun k => aheadB ll h k).length ≤ K := Nat.le_trans (List.length_filter_le _ _) (by simp; omega)
    obtain ⟨mo, mc, rfl, _, _⟩ := HG.out.slice
    by_cases hkt : K < l.length
    · have hkI : (K : Int) < l.length := by omega
      obtain ⟨m, hm⟩ : ∃ m, l[K]? = some m := ⟨l[K], List.getElem?_eq_getElem hkt⟩
      rcases HS.out with he | ⟨a, oa, rfl, hal, ha⟩
      · subst he; simp at hkt
      have c1 := (HG.out.2.cell (p := ⟨a, oa + K, none⟩) hal).trans (ha K m hm)
      have HAh := hide (HA.out m wr HG.out.2)
      have HTk := hide (filt_more (fun k => aheadB ll h k) hm)
      clear ha hm
      cases hb : aheadB ll h m with
      | true =>
        rw [hb] at HAh
        have HTk2 : Hid ((l.take (K + 1)).filter (fun k => aheadB ll h k) = (l.take K).filter (fun k => aheadB ll h k) ++ [m]) := hide (by rw [HTk.out, hb]; rfl)
        clear hb HTk
        go_wp2_with fail
        refine HAh.out.mono ?_; rintro e w1 ⟨rfl, b1⟩
        have HG1 := hide (HG.out.below b1)
        have hWs := HG1.out.2.size
        clear HAh c1 HG b1
        generalize (l.take K).filter (fun k => aheadB ll h k) = lk at *
        go_wp2_with (at_builtin; refine wpList_append_own _ rfl (.tmp 20) (.tmp 22) 22 rfl w.heap.size 3 i0 _ 1 8 Tryz.underlying22 hi0 hz0 hz1 hz2 rfl (by decide) _ _ _ rfl (HG1.out.1.alloc _) ⟨w1.heap.size, 0, none⟩ 1 1 [.int .i64 m] rfl rfl one_cell one_one (by unfold maxLen; omega) (by omega) (by simp; omega) ?_; intro v2 w2 own2 grow2 _; refine Hid.out ?_)
        have HE : Hid (Grw w ((l.take (K + 1)).filter fun k => aheadB ll h k) v2 w2) := hide (by rw [HTk2.out]; exact HG1.out.step own2 grow2)
        clear own2 grow2
        refine hide ?_
        go_wp2_with fail
        go_roundw
        case rel => exact ⟨K + 1, by omega, by go_num, HE⟩
        case measure => simp [intOf]; omega
      | false =>
        rw [hb] at HAh
        have HTk2 : Hid ((l.take (K + 1)).filter (fun k => aheadB ll h k) = (l.take K).filter (fun k => aheadB ll h k)) := hide (by rw [HTk.out, hb]; simp)
        clear hb HTk
        go_wp2_with fail
        refine HAh.out.mono ?_; rintro e w1 ⟨rfl, b1⟩
        have HE : Hid (Grw w ((l.take (K + 1)).filter fun k => aheadB ll h k) (.slice mo ((l.take K).filter fun k => aheadB ll h k).length mc) w1) := hide (by rw [HTk2.out]; exact HG.out.below b1)
        clear HAh c1 HG b1
        go_wp2_with fail
        go_roundw
        case rel => exact ⟨K + 1, by omega, by go_num, HE⟩
        case measure => simp [intOf]; omega
    · obtain rfl : K = l.length := by omega
      have HE : Hid (Grw w (l.filter fun k => aheadB ll h k) (.slice mo ((l.take l.length).filter fun k => aheadB ll h k).length mc) wr) := hide (by have := HG.out; rwa [List.take_length] at this ⊢)
      go_wp2_with fail
      go_ret
      exact ⟨_, rfl, HE.out⟩
theorem bit_at {n K : Nat} (met : List Int) (h : K < n) : (bools (bitsOf n met))[K]? = some (.bool (hasL met K)) := by
  unfold bools bitsOf
  rw [List.getElem?_map, List.getElem?_map, List.getElem?_range h]
  rfl
theorem pred_len (f : Fun) : ∀ l ∈ predsF f, l.length ≤ f.2.2.2.1.length := by
  intro l hl
  unfold predsF at hl
  obtain ⟨b, _, rfl⟩ := List.mem_map.1 hl
  unfold predTo
  rw [List.length_map]
  exact Nat.le_trans (List.length_filter_le _ _) (by simp)
set_option maxHeartbeats 2000000 in
set_option maxRecDepth 20000 in
theorem body_any (f : Fun) (h : Nat) (po bo : Option Addr) (pc bc : Nat) (w : World) (hp : RowsR w po (predsF f)) (hb : Sl w bo (backsOf f h)) (hN : f.2.2.2.1.length ≤ 1000000) (hT : Tos f) (h0 : 0 < f.2.2.2.1.length) :
    Calls Tryz.prog 27 #[.slice po (predsF f).length pc, .int .i64 h, .slice bo (backsOf f h).length bc] w fun e w' => ∃ u, e = .returned u ∧ Grw w (blocksOf f h) u w' := by
  obtain ⟨i0, hi0, hz0, hz1, hz2⟩ := info_parts Tryz.info3
  have hpl := preds_len f
  have HC := hide (greached_any (predsF f) (backsOf f h) h po bo pc bc w hp hb (by omega) (Nat.le_trans (backsK_len f h _) hN) (by rw [hpl]; exact backs_num f h) (preds_num f) (fun l hl => Nat.le_trans (pred_len f l hl) hN))
  have HBt := hide (fun (k : Nat) (hk : k < f.2.2.2.1.length) => body_bit (f := f) (h := h) hT h0 hk)
  clear hp hb hT
  obtain ⟨lbs, hlbs⟩ : ∃ n, n = f.2.2.2.1.length := ⟨_, rfl⟩
  have HEnd : Hid (blocksOf f h = blocksK f h lbs) := hide (by rw [hlbs]; rfl)
  rw [hpl] at HC ⊢
  rw [← hlbs] at hN HC HBt h0 ⊢
  clear hlbs hpl
  obtain ⟨met, hmet⟩ : ∃ met, met = metE (predsF f) (backsOf f h) h := ⟨_, rfl⟩
  rw [← hmet] at HC HBt
  clear hmet
  generalize (backsOf f h).length = bn at *
  go_enter Tryz.func27, Tryz.ntmps27
  go_wp2_with fail
  refine HC.out.mono ?_; rintro e w1 ⟨g, rfl, hR, b1⟩
  have HR := hide hR
  have HB1 := hide b1
  clear HC hR b1
  go_wp2_with fail
  go_loopw [7, 15] (fun nv i wr => ∃ K : Nat, K ≤ lbs ∧ i = .int .i64 K ∧ Hid (Grw w1 (blocksK f h K) nv wr)) (fun _ i _ => lbs - (intOf i).toNat)
  case atStart => exact ⟨0, Nat.zero_le _, rfl, hide (Grw.start _)⟩
  case round =>
    obtain ⟨K, hK, rfl, HG⟩ := hrel
    have hkl := blocksK_len f h K
    obtain ⟨mo, mc, rfl, _, _⟩ := HG.out.slice
    by_cases hkt : K < lbs
    · have hkI : (K : Int) < lbs := by omega
      have c1 := (HG.out.2.cell (p := ⟨g, K, none⟩) HR.out.lt.2).trans (HR.out.cell (bit_at met hkt))
      have HBk := hide (HBt.out K hkt)
      have hWs := HG.out.2.size
      cases hb : hasL met K with
      | true =>
        rw [hb] at c1
        have HE0 : Hid (blocksK f h (K + 1) = blocksK f h K ++ [(K : Int)]) := hide (blocksK_yes (by rw [← HBk.out, hb]; rfl))
        clear hb HBk
        go_wp2_with (at_builtin; refine wpList_append_own _ rfl (.tmp 26) (.tmp 28) 22 rfl w1.heap.size 3 i0 _ 1 8 Tryz.underlying22 hi0 hz0 hz1 hz2 rfl (by decide) _ _ _ rfl (HG.out.1.alloc _) ⟨wr.heap.size, 0, none⟩ 1 1 [.int .i64 K] rfl rfl one_cell one_one (by unfold maxLen; omega) (by omega) (by simp; omega) ?_; intro v2 w2 own2 grow2 _; refine Hid.out ?_)
        have HE : Hid (Grw w1 (blocksK f h (K + 1)) v2 w2) := hide (by rw [HE0.out]; exact HG.out.step own2 grow2)
        clear own2 grow2 c1
        refine hide ?_
        go_wp2_with fail
        go_roundw
        case rel => exact ⟨K + 1, by omega, by go_num, HE⟩
        case measure => simp [intOf]; omega
      | false =>
        rw [hb] at c1
        by_cases hkh : (K : Int) = h
        · have hd : ((K : Int) == (h : Int)) = true := beq_iff_eq.2 hkh
          have HE0 : Hid (blocksK f h (K + 1) = blocksK f h K ++ [(K : Int)]) := hide (blocksK_yes (by rw [← HBk.out, hb, decide_eq_true hkh]; rfl))
          clear hb HBk hkh
          go_wp2_with (at_builtin; refine wpList_append_own _ rfl (.tmp 26) (.tmp 28) 22 rfl w1.heap.size 3 i0 _ 1 8 Tryz.underlying22 hi0 hz0 hz1 hz2 rfl (by decide) _ _ _ rfl (HG.out.1.alloc _) ⟨wr.heap.size, 0, none⟩ 1 1 [.int .i64 K] rfl rfl one_cell one_one (by unfold maxLen; omega) (by omega) (by simp; omega) ?_; intro v2 w2 own2 grow2 _; refine Hid.out ?_)
          have HE : Hid (Grw w1 (blocksK f h (K + 1)) v2 w2) := hide (by rw [HE0.out]; exact HG.out.step own2 grow2)
          clear own2 grow2 c1
          refine hide ?_
          go_wp2_with fail
          go_roundw
          case rel => exact ⟨K + 1, by omega, by go_num, HE⟩
          case measure => simp [intOf]; omega
        · have hd : ((K : Int) == (h : Int)) = false := beq_eq_false_iff_ne.2 hkh
          have HE : Hid (Grw w1 (blocksK f h (K + 1)) (.slice mo (blocksK f h K).length mc) wr) := hide (by rw [blocksK_no (by rw [← HBk.out, hb, decide_eq_false hkh]; rfl)]; exact HG.out)
          clear hb HBk hkh
          go_wp2_with fail
          go_roundw
          case rel => exact ⟨K + 1, by omega, by go_num, HE⟩
          case measure => simp [intOf]; omega
    · obtain rfl : K = lbs := by omega
      have HE : Hid (Grw w (blocksOf f h) (.slice mo (blocksK f h K).length mc) wr) := hide (by
        rw [HEnd.out]
        exact ⟨own_base HG.out.1 HB1.out.size, below_step HB1.out HG.out.2⟩)
      go_wp2_with fail
      go_ret
      exact ⟨_, rfl, HE.out⟩
end Go.Proofs.YtmiplohoclckcaaGreat
namespace Go.Proofs.YtmiplohoclckcaaGreat
open Go Go.RowKit
open G (Tok Er Ins Fun)
theorem ret_ib {i : Int} {a b : Bool} (h : b = a) : Ending.returned (.tuple #[.int .i64 i, .bool a]) = .returned (.tuple #[.int .i64 i, .bool b]) := by rw [h]
theorem cnan_any (a : Int) (w : World) : Calls Tryz.prog 54 #[.int .i64 a] w fun e w' => e = .returned (.bool false) ∧ w' = w := by
  go_enter Tryz.func54, Tryz.ntmps54
  go_wp2_with fail
  go_ret
  exact ⟨by simp, rfl⟩
theorem snan_any (a : Int) (w : World) : Calls Tryz.prog 70 #[.int .i64 a] w fun e w' => e = .returned (.bool false) ∧ w' = w := by
  go_enter Tryz.func70, Tryz.ntmps70
  go_wp2_with fail
  go_ret
  exact ⟨by simp, rfl⟩
theorem cless_any (a b : Int) (w : World) : Calls Tryz.prog 69 #[.int .i64 a, .int .i64 b] w fun e w' => e = .returned (.bool (decide (a < b))) ∧ w' = w := by
  have H1 := hide (cnan_any a w)
  go_enter Tryz.func69, Tryz.ntmps69
  go_wp2_with fail
  refine H1.out.mono ?_; rintro e w1 ⟨rfl, rfl⟩
  go_wp2_with fail
  go_ret
  exact ⟨rfl, rfl⟩
set_option maxHeartbeats 2000000 in
set_option maxRecDepth 20000 in
theorem search_any (l : List Int) (k : Int) (ao : Option Addr) (c : Nat) (w : World) (hs : Sl w ao l) (hup : Srt l) :
    Calls Tryz.prog 52 #[.slice ao l.length c, .int .i64 k] w fun e w' => (∃ i : Int, e = .returned (.tuple #[.int .i64 i, .bool (hasL l k)])) ∧ w' = w := by
  obtain ⟨hup, hl⟩ := hup
  have HS := hide hs
  have HU := hide hup
  have HL := hide (fun (a b : Int) => cless_any a b w)
  have HN := hide (fun (a : Int) => snan_any a w)
  clear hs hup
  go_enter Tryz.func52, Tryz.ntmps52
  go_wp2_with fail
  go_loopw [7, 8] (fun i j wr => ∃ I J : Nat, i = .int .i64 I ∧ j = .int .i64 J ∧ wr = w ∧ I ≤ J ∧ J ≤ l.length ∧ Hid (Srch l k I J)) (fun i j _ => (intOf j).toNat - (intOf i).toNat)
  case atStart => exact ⟨0, l.length, rfl, rfl, rfl, Nat.zero_le _, Nat.le_refl _, hide (Srch.start l k)⟩
  case round =>
    obtain ⟨I, J, rfl, rfl, rfl, hIJ, hJl, HR⟩ := hrel
    by_cases hlt : I < J
    · have hltI : (I : Int) < J := by omega
      obtain ⟨H, hH⟩ : ∃ H, H = (I + J) / 2 := ⟨_, rfl⟩
      have hw : ((I : Int) + J) / 2 = (H : Int) := by omega
      have h1 : I ≤ H := by omega
      have h2 : H < J := by omega
      have h2I : (H : Int) < l.length := by omega
      obtain ⟨m, hm⟩ : ∃ m, l[H]? = some m := ⟨_, List.getElem?_eq_getElem (by omega)⟩
      rcases HS.out with he | ⟨a, oa, rfl, hal, ha⟩
      · subst he; simp at hm
      have c1 := ha H m hm
      clear hH ha
      by_cases hlm : m < k
      · have HE := hide (HR.out.right HU.out h2 hm hlm)
        have HLm := hide (HL.out m k)
        rw [decide_eq_true hlm] at HLm
        clear hm hlm
        go_wp2_with fail
        refine HLm.out.mono ?_; rintro e w1 ⟨rfl, rfl⟩
        go_wp2_with fail
        go_roundw
        case rel => exact ⟨H + 1, J, by go_num, rfl, trivial, by omega, hJl, HE⟩
        case measure => simp [intOf]; omega
      · have HE := hide (HR.out.left HU.out h1 h2 hm hlm)
        have HLm := hide (HL.out m k)
        rw [decide_eq_false hlm] at HLm
        clear hm hlm
        go_wp2_with fail
        refine HLm.out.mono ?_; rintro e w1 ⟨rfl, rfl⟩
        go_wp2_with fail
        go_roundw
        case rel => exact ⟨I, H, rfl, rfl, trivial, h1, by omega, HE⟩
        case measure => simp [intOf]; omega
    · obtain rfl : I = J := by omega
      by_cases hin : I < l.length
      · have hinI : (I : Int) < l.length := by omega
        obtain ⟨m, hm⟩ : ∃ m, l[I]? = some m := ⟨_, List.getElem?_eq_getElem hin⟩
        rcases HS.out with he | ⟨a, oa, rfl, hal, ha⟩
        · subst he; simp at hm
        have c1 := ha I m hm
        have HE := hide (HR.out.some HU.out hm)
        by_cases he : m = k
        · have hd : (m == k) = true := beq_iff_eq.2 he
          rw [decide_eq_true he] at HE
          clear ha hm he
          go_wp2_with fail
          go_ret2
          exact ⟨⟨(I : Int), ret_ib HE.out⟩, rfl⟩
        · have hd : (m == k) = false := beq_eq_false_iff_ne.2 he
          rw [decide_eq_false he] at HE
          have HN1 := hide (HN.out m)
          clear ha hm he
          go_wp2_with fail
          refine HN1.out.mono ?_; rintro e w1 ⟨rfl, rfl⟩
          go_wp2_with fail
          go_ret2
          exact ⟨⟨(I : Int), ret_ib HE.out⟩, rfl⟩
      · have hinI : ¬ (I : Int) < l.length := by omega
        have HE := hide (HR.out.none hin)
        go_wp2_with fail
        go_ret2
        exact ⟨⟨(I : Int), ret_ib HE.out⟩, rfl⟩
/-- Whether a block is one of a loop's. -/
theorem holds_any (x : Lp) (k : Int) (v : Value) (w : World) (hv : LoopV w x v) (hup : Srt x.2.1) :
    Calls Tryz.prog 31 #[v, .int .i64 k] w fun e w' => e = .returned (.bool (hasL x.2.1 k)) ∧ Below w.heap.size w w' := by
  obtain ⟨vb, vk, rfl, ⟨bo, bc, rfl, h1, h2, h3⟩, ⟨ko, kc, rfl, _⟩⟩ := hv
  have hB := below_box w (.cells #[.int .i64 x.1, .slice bo x.2.1.length bc, .slice ko x.2.2.1.length kc, .int .i64 x.2.2.2] 36)
  have X0 := hide (four_of (heap_alloc_new w (.cells #[.int .i64 x.1, .slice bo x.2.1.length bc, .slice ko x.2.2.1.length kc, .int .i64 x.2.2.2] 36)))
  have HC := hide (fun w2 (b : Below w.heap.size w w2) => search_any x.2.1 k bo bc w2 (h1.below b) hup)
  have HB := hide hB
  clear hB h1 hup
  go_enter Tryz.func31, Tryz.ntmps31
  go_upto_region 1 with fail
  show Code.wp _ _ _ _ (w.alloc (.cells #[.int .i64 x.1, .slice bo x.2.1.length bc, .slice ko x.2.2.1.length kc, .int .i64 x.2.2.2] 36))
  generalize w.alloc (.cells #[.int .i64 x.1, .slice bo x.2.1.length bc, .slice ko x.2.2.1.length kc, .int .i64 x.2.2.2] 36) = W at *
  obtain ⟨⟨c0, c1, c2, c3⟩, _, _⟩ := X0.out
  have HC1 := hide (HC.out W HB.out)
  go_wp2_with fail
  refine HC1.out.mono ?_; rintro e w1 ⟨⟨i, rfl⟩, rfl⟩
  go_wp2_with fail
  go_ret
  exact ⟨rfl, HB.out⟩
end Go.Proofs.YtmiplohoclckcaaGreat
