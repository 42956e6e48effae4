/- Layer 9, the reference: whom one meets from the first block on, not by way of one. Layer 9, the reference: the table of what stands ahead of what. -/
import Derived.Test.YtmiplohoclckcaaGreatLtAI
import Derived.Test.YtmiplohoclckcaaGreatLtAL
namespace Go.Proofs.YtmiplohoclckcaaGreat
open Go Go.RowKit
open G (Tok Er Ins Fun)
theorem bitsOf_succ (n : Nat) (met : List Int) : bitsOf (n + 1) met = bitsOf n met ++ [hasL met n] := by
  unfold bitsOf; rw [List.range_succ, List.map_append]; rfl
/-- A list of bools of one's own, under way. -/
def GrB (w : World) (l : List Bool) (v : Value) (wr : World) : Prop := wr.ownsRow w.heap.size 4 1 v l.length (bools l) ∧ Below w.heap.size w wr
theorem GrB.start (w : World) : GrB w [] (.slice none 0 0) w := ⟨World.ownsRow_nil _ _ _ _, Below.refl _ _⟩
theorem GrB.step {w wr w2 : World} {l : List Bool} {v v' : Value} {x : Bool} {o : Obj} (h : GrB w l v wr) (own : w2.ownsRow w.heap.size 4 1 v' (l.length + 1) (bools l ++ [.bool x])) (hg : (wr.alloc o).grownBy w2 v.ownBlock) : GrB w (l ++ [x]) v' w2 := by
  refine ⟨by simpa [bools] using own, ?_⟩
  refine Below.grown (h.2.alloc h.2.size o) hg (by simp; have := h.2.size; omega) ?_
  intro k hk
  exact (h.1.lt k hk).1
theorem GrB.len {w wr : World} {l : List Bool} {v : Value} (h : GrB w l v wr) : ∃ ao c, v = .slice ao l.length c := own_len h.1
theorem one_oneB {a : Bool} : ∀ u ∈ [Value.bool a], u.oneCell' = true := by
  intro u hu
  simp at hu
  subst hu
  rfl
set_option maxHeartbeats 8000000 in
set_option maxRecDepth 20000 in
theorem rmet_any (s : ByteArray) (rt pl but : Int) (ll : List (List Int)) (ao bo eo : Option Addr) (pn c cb ec : Nat) (w : World) (he : RowsR w eo ll) (hel : ll.length ≤ 1000000) (hgr : Gr ll) (hell : ∀ l ∈ ll, l.length ≤ 1000000) :
    Calls Tryz.prog 40 #[.agg #[.string s, .slice ao pn c, .int .i64 rt, .slice bo ll.length cb, .int .i64 pl], .slice eo ll.length ec, .int .i64 but] w fun e w' => ∃ v, e = .returned v ∧ w'.ownsRow w.heap.size 4 1 v ll.length (bools (bitsOf ll.length (metE ll [0] but))) ∧ Below w.heap.size w w' := by
  obtain ⟨i0, hi0, hz0, hz1, hz2⟩ := info_parts Tryz.info3
  obtain ⟨i4, hi4, hy0, hy1, hy2⟩ := info_parts Tryz.info4
  have b0 := below_box w (.cells #[.string s, .slice ao pn c, .int .i64 rt, .slice bo ll.length cb, .int .i64 pl] 25)
  have X0 := hide (L5.Box.new w [.string s, .slice ao pn c, .int .i64 rt, .slice bo ll.length cb, .int .i64 pl] 25)
  have B0 := hide b0
  have HEd := hide (he.below b0)
  have HEn := hide hgr.1
  have HFr := hide hgr.frm
  have HEl := hide hell
  have hpos := hgr.2
  clear b0 he hgr hell
  go_enter Tryz.func40, Tryz.ntmps40
  go_upto_region 1 with fail
  show Code.wp _ _ _ _ (w.alloc (.cells #[.string s, .slice ao pn c, .int .i64 rt, .slice bo ll.length cb, .int .i64 pl] 25))
  replace X0 : Hid (L5.Box (w.alloc (.cells #[.string s, .slice ao pn c, .int .i64 rt, .slice bo ll.length cb, .int .i64 pl] 25)) w.heap.size [.string s, .slice ao pn c, .int .i64 rt, .slice bo ll.length cb, .int .i64 pl]) := X0
  generalize w.alloc (.cells #[.string s, .slice ao pn c, .int .i64 rt, .slice bo ll.length cb, .int .i64 pl] 25) = W at *
  have HN0 : Hid (NumD ll.length (addsB but [] [0])) := hide (NumD.addsB but _ _ (NumD.nil _) HFr.out)
  have HM : Hid (growE ll but (ll.length + 1 - 0) 0 (addsB but [] [0]) = metE ll [0] but) := hide rfl
  by_cases hb0 : but = 0
  · have hbn : (but != 0) = false := by simpa using hb0
    have HG0 : Hid (Grw W (addsB but [] [0]) (.slice none 0 0) W) := hide (by
      have e : addsB but [] [0] = [] := by simp [addsB, addB, hb0]
      rw [e]; exact Grw.start W)
    replace hb0 := hide hb0
    go_wp2_with fail
    go_loopw [7, 8] (fun v i wr => ∃ (I : Nat) (met : List Int), I ≤ met.length ∧ i = .int .i64 I ∧ Hid (Grw W met v wr) ∧ Hid (NumD ll.length met) ∧ Hid (growE ll but (ll.length + 1 - I) I met = metE ll [0] but)) (fun _ i _ => ll.length + 1 - (intOf i).toNat)
    case atStart => exact ⟨0, _, Nat.zero_le _, rfl, HG0, HN0, HM⟩
    case round =>
      clear HG0 HN0 HM
      obtain ⟨I, met, hI, rfl, HG, HN, HM⟩ := hrel
      have hml : met.length ≤ ll.length := fit_len _ _ HN.out.1 HN.out.2
      obtain ⟨mo, mc, rfl, s1, s2⟩ := HG.out.slice
      by_cases hit : I < met.length
      · have hiI : (I : Int) < met.length := by omega
        obtain ⟨m, hm⟩ : ∃ m, met[I]? = some m := ⟨met[I], List.getElem?_eq_getElem hit⟩
        obtain ⟨hm0, hm1⟩ := HN.out.2 m (List.mem_of_getElem? hm)
        obtain ⟨M, rfl⟩ : ∃ M : Nat, m = (M : Int) := ⟨m.toNat, by omega⟩
        have hMl : M < ll.length := by omega
        obtain ⟨l, hl⟩ : ∃ l, ll[M]? = some l := ⟨ll[M], List.getElem?_eq_getElem hMl⟩
        have HMs : Hid (growE ll but (ll.length + 1 - (I + 1)) (I + 1) (addsB but met l) = metE ll [0] but) := hide (by
          have e := HM.out
          rw [show ll.length + 1 - I = (ll.length + 1 - (I + 1)) + 1 by omega, growE_step hm] at e
          rw [← e, Int.toNat_natCast, List.getD_eq_getElem?_getD, hl]; rfl)
        have HLn := hide (HEn.out l (List.mem_of_getElem? hl))
        have hll := HEl.out l (List.mem_of_getElem? hl)
        rcases HEd.out with e0 | ⟨eb, eo2, rfl, d1, d2⟩
        · subst e0; simp at hMl
        obtain ⟨_, k1, ⟨lo, lc, rfl, k2, k3, k4⟩⟩ := d2 M l hl
        have HK1 := hide k1
        have hlw : Hid (Sl W lo l) := hide k2
        have HMm := hide hm
        have HG0 : Hid (Grw W (addsB but met (l.take 0)) _ wr) := HG
        clear d2 k1 k2 hm hl s1 s2 HG
        go_wp2_with fail
        go_loopw [7, 9] (fun v i wq => ∃ K : Nat, K ≤ l.length ∧ i = .int .i64 K ∧ Hid (Grw W (addsB but met (l.take K)) v wq)) (fun _ i _ => l.length - (intOf i).toNat)
        case atStart => exact ⟨0, Nat.zero_le _, rfl, HG0⟩
        case round =>
          clear HG0
          obtain ⟨K, hK, rfl, HG⟩ := hrel
          have HPx : Hid ((addsB but met (l.take K))[I]? = some (M : Int)) := hide (addsB_prefix but _ _ _ _ HMm.out)
          have HNm : Hid (NumD ll.length (addsB but met (l.take K))) := hide (NumD.addsB but _ _ HN.out (HLn.out.take K))
          have HTk := fun n hn => hide (addsB_take (but := but) (met := met) (l := l) (i := K) (m := n) hn)
          have HEnd : Hid (K = l.length → addsB but met (l.take K) = addsB but met l) := hide (fun e => by rw [e, List.take_length])
          generalize addsB but met (l.take K) = me2 at *
          have hml2 : me2.length ≤ ll.length := fit_len _ _ HNm.out.1 HNm.out.2
          have hit2 : I < me2.length := (List.getElem?_eq_some_iff.1 HPx.out).1
          have hit3 : (I : Int) < me2.length := by omega
          obtain ⟨mo3, mc3, rfl, s1, s2⟩ := HG.out.slice
          have HS := hide s1
          rcases s1 with e0 | ⟨mb, mo2, rfl, g1, g2⟩
          · exfalso; rw [e0] at hit2; simp at hit2
          have c1 := g2 I _ HPx.out
          have c2 := (HG.out.2.cell (p := ⟨eb, eo2 + M, none⟩) d1).trans HK1.out
          have hWs := HG.out.2.size
          clear g2
          by_cases hkt : K < l.length
          · obtain ⟨n, hn⟩ : ∃ n, l[K]? = some n := ⟨l[K], List.getElem?_eq_getElem hkt⟩
            have hkI : (K : Int) < l.length := by omega
            have HTk := HTk n hn
            rcases hlw.out with e0 | ⟨fb, fo2, rfl, f1, f2⟩
            · subst e0; simp at hkt
            have c3 := (HG.out.2.cell (p := ⟨fb, fo2 + K, none⟩) f1).trans (f2 K n hn)
            have HH := hide (rhas_any me2 n _ mc3 wr HS.out s2)
            clear f2 s2 hn
            by_cases hmb : n = but
            · have HE : Hid (Grw W (addsB but met (l.take (K + 1))) _ wr) := hide (by rw [HTk.out, addB_but hmb]; exact HG.out)
              have hmn : (n != but) = false := by simpa using hmb
              go_wp2_with fail
              go_roundw
              case rel => exact ⟨K + 1, by omega, by go_num, HE⟩
              case measure => simp [intOf]; omega
            · have hmn : (n != but) = true := by simpa using hmb
              go_wp2_with fail
              refine HH.out.mono ?_; rintro e w8 ⟨rfl, rfl⟩
              cases hh : hasL me2 n with
              | true =>
                have HE : Hid (Grw W (addsB but met (l.take (K + 1))) _ w8) := hide (by rw [HTk.out, addB_has hmb hh]; exact HG.out)
                replace hh := hide hh
                go_wp2_with fail
                go_roundw
                case rel => exact ⟨K + 1, by omega, by go_num, HE⟩
                case measure => simp [intOf]; omega
              | false =>
                have HA := hide (HTk.out.trans (addB_new hmb hh))
                replace hh := hide hh
                go_wp2_with (at_builtin; refine wpList_append_own _ rfl (.tmp 55) (.tmp 57) 22 rfl W.heap.size 3 i0 _ 1 8 Tryz.underlying22 hi0 hz0 hz1 hz2 rfl (by decide) _ _ _ rfl (HG.out.1.alloc _) ⟨w8.heap.size, 0, none⟩ 1 1 [.int .i64 n] rfl rfl one_cell one_one (by unfold maxLen; omega) (by omega) (by simp; omega) ?_; intro v2 w2 own2 grow2 _; refine Hid.out ?_)
                have HE : Hid (Grw W (addsB but met (l.take (K + 1))) v2 w2) := hide (by rw [HA.out]; exact HG.out.step own2 grow2)
                clear own2 grow2
                refine hide ?_
                go_wp2_with fail
                go_roundw
                case rel => exact ⟨K + 1, by omega, by go_num, HE⟩
                case measure => simp [intOf]; omega
          · obtain rfl : K = l.length := by omega
            obtain rfl : me2 = addsB but met l := HEnd.out rfl
            have HG2 : Hid (Grw W (addsB but met l) _ wr) := HG
            have HN2 : Hid (NumD ll.length (addsB but met l)) := hide (NumD.addsB but _ _ HN.out HLn.out)
            have hge : met.length ≤ (addsB but met l).length := addsB_len _ _ _
            go_wp2_with fail
            go_roundw
            case rel => exact ⟨I + 1, _, by omega, by go_num, HG2, HN2, HMs⟩
            case measure => simp [intOf]; omega
      · have HE : Hid (met = metE ll [0] but) := hide ((growE_end (by omega)).symm.trans HM.out)
        have HS := hide s1
        have HWB := hide HG.out.2
        clear s1 HG HM
        go_wp2_with fail
        generalize wr = W3 at *
        go_loopw [11, 12] (fun v i wq => ∃ K : Nat, K ≤ ll.length ∧ i = .int .i64 K ∧ Hid (GrB W3 (bitsOf K met) v wq)) (fun _ i _ => ll.length - (intOf i).toNat)
        case atStart => exact ⟨0, Nat.zero_le _, rfl, hide (GrB.start _)⟩
        case round =>
          obtain ⟨K, hK, rfl, HB⟩ := hrel
          have HWq := hide (below_step HWB.out HB.out.2)
          have x3 := (X0.out.below HWq.out).2 3 _ rfl
          have HBL : Hid ((bitsOf K met).length = K) := hide (by simp [bitsOf])
          by_cases hkt : K < ll.length
          · have hkI : (K : Int) < ll.length := by omega
            have HH := hide (rhas_any met K mo mc wr (HS.out.below HB.out.2) s2)
            obtain ⟨vo, vc, rfl⟩ := HB.out.len
            go_wp2_with fail
            refine HH.out.mono ?_; rintro e w8 ⟨rfl, rfl⟩
            have hWs := HWq.out.size
            have h8 := HB.out.2.size
            go_wp2_with (at_builtin; refine wpList_append_own _ rfl (.tmp 66) (.tmp 70) 64 rfl W3.heap.size 4 i4 _ 1 1 Tryz.underlying64 hi4 hy0 hy1 hy2 rfl (by decide) _ _ _ rfl (HB.out.1.alloc _) ⟨w8.heap.size, 0, none⟩ 1 1 [.bool (hasL met K)] rfl rfl one_cell one_oneB (by have := HBL.out; unfold maxLen; omega) (by have := HBL.out; omega) (by simp; omega) ?_; intro v2 w2 own2 grow2 _; refine Hid.out ?_)
            have HE : Hid (GrB W3 (bitsOf (K + 1) met) v2 w2) := hide (by rw [bitsOf_succ]; exact HB.out.step own2 grow2)
            clear own2 grow2
            refine hide ?_
            go_wp2_with fail
            go_roundw
            case rel => exact ⟨K + 1, by omega, by go_num, HE⟩
            case measure => simp [intOf]; omega
          · obtain rfl : K = ll.length := by omega
            go_wp2_with fail
            go_ret
            refine ⟨_, rfl, ?_, below_step B0.out HWq.out⟩
            have := HB.out.1
            rw [HBL.out, HE.out] at this
            exact own_base this (Nat.le_trans (by have := B0.out.size; exact this) HWB.out.size)
  · have hbn : (but != 0) = true := by simpa using hb0
    go_wp2_with (at_builtin; refine wpList_append_own _ rfl (.tmp 15) (.tmp 16) 22 rfl W.heap.size 3 i0 _ 1 8 Tryz.underlying22 hi0 hz0 hz1 hz2 rfl (by decide) _ _ _ rfl ((Grw.start W).1.alloc _) ⟨W.heap.size, 0, none⟩ 1 1 [.int .i64 0] rfl rfl one_cell one_one (by unfold maxLen; simp) (by simp) (by simp) ?_; intro v2 w2 own2 grow2 _; refine Hid.out ?_)
    have HG0 : Hid (Grw W (addsB but [] [0]) v2 w2) := hide (by
      have e : addsB but [] [0] = [] ++ [0] := by
        have h : (0 : Int) ≠ but := fun e => hb0 e.symm
        simp [addsB, addB, h, addL, hasL]
      rw [e]; exact (Grw.start W).step own2 grow2)
    clear own2 grow2
    replace hb0 := hide hb0
    refine hide ?_
    go_wp2_with fail
    go_loopw [7, 8] (fun v i wr => ∃ (I : Nat) (met : List Int), I ≤ met.length ∧ i = .int .i64 I ∧ Hid (Grw W met v wr) ∧ Hid (NumD ll.length met) ∧ Hid (growE ll but (ll.length + 1 - I) I met = metE ll [0] but)) (fun _ i _ => ll.length + 1 - (intOf i).toNat)
    case atStart => exact ⟨0, _, Nat.zero_le _, rfl, HG0, HN0, HM⟩
    case round =>
      clear HG0 HN0 HM
      obtain ⟨I, met, hI, rfl, HG, HN, HM⟩ := hrel
      have hml : met.length ≤ ll.length := fit_len _ _ HN.out.1 HN.out.2
      obtain ⟨mo, mc, rfl, s1, s2⟩ := HG.out.slice
      by_cases hit : I < met.length
      · have hiI : (I : Int) < met.length := by omega
        obtain ⟨m, hm⟩ : ∃ m, met[I]? = some m := ⟨met[I], List.getElem?_eq_getElem hit⟩
        obtain ⟨hm0, hm1⟩ := HN.out.2 m (List.mem_of_getElem? hm)
        obtain ⟨M, rfl⟩ : ∃ M : Nat, m = (M : Int) := ⟨m.toNat, by omega⟩
        have hMl : M < ll.length := by omega
        obtain ⟨l, hl⟩ : ∃ l, ll[M]? = some l := ⟨ll[M], List.getElem?_eq_getElem hMl⟩
        have HMs : Hid (growE ll but (ll.length + 1 - (I + 1)) (I + 1) (addsB but met l) = metE ll [0] but) := hide (by
          have e := HM.out
          rw [show ll.length + 1 - I = (ll.length + 1 - (I + 1)) + 1 by omega, growE_step hm] at e
          rw [← e, Int.toNat_natCast, List.getD_eq_getElem?_getD, hl]; rfl)
        have HLn := hide (HEn.out l (List.mem_of_getElem? hl))
        have hll := HEl.out l (List.mem_of_getElem? hl)
        rcases HEd.out with e0 | ⟨eb, eo2, rfl, d1, d2⟩
        · subst e0; simp at hMl
        obtain ⟨_, k1, ⟨lo, lc, rfl, k2, k3, k4⟩⟩ := d2 M l hl
        have HK1 := hide k1
        have hlw : Hid (Sl W lo l) := hide k2
        have HMm := hide hm
        have HG0 : Hid (Grw W (addsB but met (l.take 0)) _ wr) := HG
        clear d2 k1 k2 hm hl s1 s2 HG
        go_wp2_with fail
        go_loopw [7, 9] (fun v i wq => ∃ K : Nat, K ≤ l.length ∧ i = .int .i64 K ∧ Hid (Grw W (addsB but met (l.take K)) v wq)) (fun _ i _ => l.length - (intOf i).toNat)
        case atStart => exact ⟨0, Nat.zero_le _, rfl, HG0⟩
        case round =>
          clear HG0
          obtain ⟨K, hK, rfl, HG⟩ := hrel
          have HPx : Hid ((addsB but met (l.take K))[I]? = some (M : Int)) := hide (addsB_prefix but _ _ _ _ HMm.out)
          have HNm : Hid (NumD ll.length (addsB but met (l.take K))) := hide (NumD.addsB but _ _ HN.out (HLn.out.take K))
          have HTk := fun n hn => hide (addsB_take (but := but) (met := met) (l := l) (i := K) (m := n) hn)
          have HEnd : Hid (K = l.length → addsB but met (l.take K) = addsB but met l) := hide (fun e => by rw [e, List.take_length])
          generalize addsB but met (l.take K) = me2 at *
          have hml2 : me2.length ≤ ll.length := fit_len _ _ HNm.out.1 HNm.out.2
          have hit2 : I < me2.length := (List.getElem?_eq_some_iff.1 HPx.out).1
          have hit3 : (I : Int) < me2.length := by omega
          obtain ⟨mo3, mc3, rfl, s1, s2⟩ := HG.out.slice
          have HS := hide s1
          rcases s1 with e0 | ⟨mb, mo2, rfl, g1, g2⟩
          · exfalso; rw [e0] at hit2; simp at hit2
          have c1 := g2 I _ HPx.out
          have c2 := (HG.out.2.cell (p := ⟨eb, eo2 + M, none⟩) d1).trans HK1.out
          have hWs := HG.out.2.size
          clear g2
          by_cases hkt : K < l.length
          · obtain ⟨n, hn⟩ : ∃ n, l[K]? = some n := ⟨l[K], List.getElem?_eq_getElem hkt⟩
            have hkI : (K : Int) < l.length := by omega
            have HTk := HTk n hn
            rcases hlw.out with e0 | ⟨fb, fo2, rfl, f1, f2⟩
            · subst e0; simp at hkt
            have c3 := (HG.out.2.cell (p := ⟨fb, fo2 + K, none⟩) f1).trans (f2 K n hn)
            have HH := hide (rhas_any me2 n _ mc3 wr HS.out s2)
            clear f2 s2 hn
            by_cases hmb : n = but
            · have HE : Hid (Grw W (addsB but met (l.take (K + 1))) _ wr) := hide (by rw [HTk.out, addB_but hmb]; exact HG.out)
              have hmn : (n != but) = false := by simpa using hmb
              go_wp2_with fail
              go_roundw
              case rel => exact ⟨K + 1, by omega, by go_num, HE⟩
              case measure => simp [intOf]; omega
            · have hmn : (n != but) = true := by simpa using hmb
              go_wp2_with fail
              refine HH.out.mono ?_; rintro e w8 ⟨rfl, rfl⟩
              cases hh : hasL me2 n with
              | true =>
                have HE : Hid (Grw W (addsB but met (l.take (K + 1))) _ w8) := hide (by rw [HTk.out, addB_has hmb hh]; exact HG.out)
                replace hh := hide hh
                go_wp2_with fail
                go_roundw
                case rel => exact ⟨K + 1, by omega, by go_num, HE⟩
                case measure => simp [intOf]; omega
              | false =>
                have HA := hide (HTk.out.trans (addB_new hmb hh))
                replace hh := hide hh
                go_wp2_with (at_builtin; refine wpList_append_own _ rfl (.tmp 55) (.tmp 57) 22 rfl W.heap.size 3 i0 _ 1 8 Tryz.underlying22 hi0 hz0 hz1 hz2 rfl (by decide) _ _ _ rfl (HG.out.1.alloc _) ⟨w8.heap.size, 0, none⟩ 1 1 [.int .i64 n] rfl rfl one_cell one_one (by unfold maxLen; omega) (by omega) (by simp; omega) ?_; intro v2 w2 own2 grow2 _; refine Hid.out ?_)
                have HE : Hid (Grw W (addsB but met (l.take (K + 1))) v2 w2) := hide (by rw [HA.out]; exact HG.out.step own2 grow2)
                clear own2 grow2
                refine hide ?_
                go_wp2_with fail
                go_roundw
                case rel => exact ⟨K + 1, by omega, by go_num, HE⟩
                case measure => simp [intOf]; omega
          · obtain rfl : K = l.length := by omega
            obtain rfl : me2 = addsB but met l := HEnd.out rfl
            have HG2 : Hid (Grw W (addsB but met l) _ wr) := HG
            have HN2 : Hid (NumD ll.length (addsB but met l)) := hide (NumD.addsB but _ _ HN.out HLn.out)
            have hge : met.length ≤ (addsB but met l).length := addsB_len _ _ _
            go_wp2_with fail
            go_roundw
            case rel => exact ⟨I + 1, _, by omega, by go_num, HG2, HN2, HMs⟩
            case measure => simp [intOf]; omega
      · have HE : Hid (met = metE ll [0] but) := hide ((growE_end (by omega)).symm.trans HM.out)
        have HS := hide s1
        have HWB := hide HG.out.2
        clear s1 HG HM
        go_wp2_with fail
        generalize wr = W3 at *
        go_loopw [11, 12] (fun v i wq => ∃ K : Nat, K ≤ ll.length ∧ i = .int .i64 K ∧ Hid (GrB W3 (bitsOf K met) v wq)) (fun _ i _ => ll.length - (intOf i).toNat)
        case atStart => exact ⟨0, Nat.zero_le _, rfl, hide (GrB.start _)⟩
        case round =>
          obtain ⟨K, hK, rfl, HB⟩ := hrel
          have HWq := hide (below_step HWB.out HB.out.2)
          have x3 := (X0.out.below HWq.out).2 3 _ rfl
          have HBL : Hid ((bitsOf K met).length = K) := hide (by simp [bitsOf])
          by_cases hkt : K < ll.length
          · have hkI : (K : Int) < ll.length := by omega
            have HH := hide (rhas_any met K mo mc wr (HS.out.below HB.out.2) s2)
            obtain ⟨vo, vc, rfl⟩ := HB.out.len
            go_wp2_with fail
            refine HH.out.mono ?_; rintro e w8 ⟨rfl, rfl⟩
            have hWs := HWq.out.size
            have h8 := HB.out.2.size
            go_wp2_with (at_builtin; refine wpList_append_own _ rfl (.tmp 66) (.tmp 70) 64 rfl W3.heap.size 4 i4 _ 1 1 Tryz.underlying64 hi4 hy0 hy1 hy2 rfl (by decide) _ _ _ rfl (HB.out.1.alloc _) ⟨w8.heap.size, 0, none⟩ 1 1 [.bool (hasL met K)] rfl rfl one_cell one_oneB (by have := HBL.out; unfold maxLen; omega) (by have := HBL.out; omega) (by simp; omega) ?_; intro v2 w2 own2 grow2 _; refine Hid.out ?_)
            have HE : Hid (GrB W3 (bitsOf (K + 1) met) v2 w2) := hide (by rw [bitsOf_succ]; exact HB.out.step own2 grow2)
            clear own2 grow2
            refine hide ?_
            go_wp2_with fail
            go_roundw
            case rel => exact ⟨K + 1, by omega, by go_num, HE⟩
            case measure => simp [intOf]; omega
          · obtain rfl : K = ll.length := by omega
            go_wp2_with fail
            go_ret
            refine ⟨_, rfl, ?_, below_step B0.out HWq.out⟩
            have := HB.out.1
            rw [HBL.out, HE.out] at this
            exact own_base this (Nat.le_trans (by have := B0.out.size; exact this) HWB.out.size)
end Go.Proofs.YtmiplohoclckcaaGreat
namespace Go.Proofs.YtmiplohoclckcaaGreat
open Go Go.RowKit
open G (Tok Er Ins Fun)
theorem Tryz.info64 : (Tryz.prog.info? 64).map (fun i => (i.zero, i.size, i.bytes)) = some (some (.slice none 0 0), 1, 24) := by kernel_rfl
/-- What a block stands ahead of, of the first so many blocks; the table, to so many rows. -/
def rowTo (ll : List (List Int)) (a : Int) (K : Nat) : List Bool := (List.range K).map fun (b : Nat) => aheadB ll a b
def tabTo (ll : List (List Int)) (K : Nat) : List (List Bool) := (List.range K).map fun (a : Nat) => rowTo ll a ll.length
def tabOf (ll : List (List Int)) : List (List Bool) := tabTo ll ll.length
theorem rowTo_succ (ll : List (List Int)) (a : Int) (K : Nat) : rowTo ll a (K + 1) = rowTo ll a K ++ [aheadB ll a K] := by
  unfold rowTo; rw [List.range_succ, List.map_append]; rfl
theorem rowTo_len (ll : List (List Int)) (a : Int) (K : Nat) : (rowTo ll a K).length = K := by simp [rowTo]
theorem rowTo_at {ll : List (List Int)} {a : Int} {K b : Nat} (h : b < K) : (rowTo ll a K)[b]? = some (aheadB ll a b) := by
  unfold rowTo; rw [List.getElem?_map, List.getElem?_range h]; rfl
theorem tabTo_succ (ll : List (List Int)) (K : Nat) : tabTo ll (K + 1) = tabTo ll K ++ [rowTo ll K ll.length] := by
  unfold tabTo; rw [List.range_succ, List.map_append]; rfl
theorem tabTo_len (ll : List (List Int)) (K : Nat) : (tabTo ll K).length = K := by simp [tabTo]
theorem tabTo_at {ll : List (List Int)} {K a : Nat} (h : a < K) : (tabTo ll K)[a]? = some (rowTo ll a ll.length) := by
  unfold tabTo; rw [List.getElem?_map, List.getElem?_range h]; rfl
/-- Lists of bools in a list of one's own. -/
def TabO (B : Nat) (w : World) (t : List (List Bool)) (v : Value) : Prop := ∃ us : List Value, w.ownsRow B 64 1 v t.length us ∧ us.length = t.length ∧ ∀ (i : Nat) (l : List Bool), t[i]? = some l → ∃ u, us[i]? = some u ∧ w.ownsRow B 4 1 u l.length (bools l)
theorem TabO.nil (B : Nat) (w : World) : TabO B w [] (.slice none 0 0) := ⟨[], World.ownsRow_nil _ _ _ _, rfl, fun i l h => by simp at h⟩
theorem TabO.below {B : Nat} {w w' : World} {t : List (List Bool)} {v : Value} (h : TabO B w t v) (b : Below w.heap.size w w') : TabO B w' t v := by
  obtain ⟨us, h1, h2, h3⟩ := h
  refine ⟨us, own_below b B _ _ _ _ _ h1, h2, fun i l hl => ?_⟩
  obtain ⟨u, k1, k2⟩ := h3 i l hl
  exact ⟨u, k1, own_below b B _ _ _ _ _ k2⟩
theorem TabO.base {B B' : Nat} {w : World} {t : List (List Bool)} {v : Value} (h : TabO B w t v) (hB : B' ≤ B) : TabO B' w t v := by
  obtain ⟨us, h1, h2, h3⟩ := h
  refine ⟨us, own_base h1 hB, h2, fun i l hl => ?_⟩
  obtain ⟨u, k1, k2⟩ := h3 i l hl
  exact ⟨u, k1, own_base k2 hB⟩
theorem TabO.len {B : Nat} {w : World} {t : List (List Bool)} {v : Value} (h : TabO B w t v) : ∃ ao c, v = .slice ao t.length c := by
  obtain ⟨us, h1, _⟩ := h
  exact own_len h1
theorem TabO.step {B : Nat} {wr w2 : World} {t : List (List Bool)} {l : List Bool} {v v' u : Value} {us : List Value} {o : Obj} (h1 : wr.ownsRow B 64 1 v t.length us)
    (h : us.length = t.length ∧ ∀ (i : Nat) (l : List Bool), t[i]? = some l → ∃ u, us[i]? = some u ∧ wr.ownsRow B 4 1 u l.length (bools l)) (hu : wr.ownsRow B 4 1 u l.length (bools l))
    (own : w2.ownsRow B 64 1 v' (t.length + 1) (us ++ [u])) (hg : (wr.alloc o).grownBy w2 v.ownBlock) : TabO B w2 (t ++ [l]) v' := by
  obtain ⟨h2, h3⟩ := h
  refine ⟨us ++ [u], by simpa using own, by simp [h2], fun i m hm => ?_⟩
  have other : ∀ (x : Value) (n : Nat) (xs : List Value), wr.ownsRow B 4 1 x n xs → w2.ownsRow B 4 1 x n xs := fun x n xs hx => own_other hg (h1.alloc o) (by decide) x n xs (hx.alloc o)
  by_cases hi : i < t.length
  · rw [List.getElem?_append_left hi] at hm
    obtain ⟨y, k1, k2⟩ := h3 i m hm
    exact ⟨y, by rw [List.getElem?_append_left (by omega)]; exact k1, other _ _ _ k2⟩
  · rw [List.getElem?_append_right (by omega)] at hm
    have hi2 : i - t.length = 0 := by
      have := (List.getElem?_eq_some_iff.1 hm).1
      simp at this
      omega
    rw [hi2] at hm
    simp at hm
    subst hm
    exact ⟨u, by rw [List.getElem?_append_right (by omega), h2, hi2]; rfl, other _ _ _ hu⟩
/-- A row of bools of one's own, as it is read. -/
theorem own_bits {w : World} {B n : Nat} {v : Value} {met : List Int} (h : w.ownsRow B 4 1 v n (bools (bitsOf n met))) (hn : 0 < n) : ∃ g cap, v = .slice (some ⟨g, 0, none⟩) n cap ∧ g < w.heap.size ∧ ∀ b : Nat, b < n → w.cell? ⟨g, b, none⟩ = some (.bool (hasL met b)) := by
  rcases own_view h with ⟨_, e⟩ | ⟨g, cap, e, h1, h2, h3, h4, h5, h6⟩
  · omega
  · exact ⟨g, cap, e, h4, fun b hb => h5 b _ (bools_at (bitsOf_at hb))⟩
theorem succs_small {f : Fun} (hF : Ful f) : ∀ l ∈ succsF f, l.length ≤ 1000000 := by
  intro l hl
  obtain ⟨K, hK, rfl⟩ := List.mem_iff_getElem.1 hl
  have hK2 : K < f.2.2.2.1.length := by rw [← succsF_len]; exact hK
  have e := succsF_at hK2
  rw [List.getElem?_eq_getElem hK] at e
  injection e with e
  rw [e]
  exact nextF_len hF hK2
set_option maxHeartbeats 8000000 in
set_option maxRecDepth 20000 in
theorem rtable_try (nm : List UInt8) (ps : List Int) (rt pl : Int) (bl : List (List Ins)) (ao bo : Option Addr) (c cb : Nat) (w : World)
    (hv : FunV w (nm, ps, rt, bl, pl) (.agg #[.string (bs nm), .slice ao ps.length c, .int .i64 rt, .slice bo bl.length cb, .int .i64 pl])) (hF : Ful (nm, ps, rt, bl, pl)) (hgr : Gr (succsF (nm, ps, rt, bl, pl))) :
    Calls Tryz.prog 18 #[.agg #[.string (bs nm), .slice ao ps.length c, .int .i64 rt, .slice bo bl.length cb, .int .i64 pl]] w fun e w' => ∃ v, e = .returned v ∧ TabO w.heap.size w' (tabOf (succsF (nm, ps, rt, bl, pl))) v ∧ Below w.heap.size w w' := by
  obtain ⟨i4, hi4, hy0, hy1, hy2⟩ := info_parts Tryz.info4
  obtain ⟨i5, hi5, hx0, hx1, hx2⟩ := info_parts Tryz.info64
  have b0 := below_box w (.cells #[.string (bs nm), .slice ao ps.length c, .int .i64 rt, .slice bo bl.length cb, .int .i64 pl] 25)
  have X0 := hide (L5.Box.new w [.string (bs nm), .slice ao ps.length c, .int .i64 rt, .slice bo bl.length cb, .int .i64 pl] 25)
  have B0 := hide b0
  have HS := hide (rsuccs_try nm ps rt pl bl ao bo c cb _ (hv.below b0) hF)
  have HEl := hide (succs_small hF)
  have hbl : bl.length ≤ 1000000 := hF.1
  have hlen : bl.length = (succsF (nm, ps, rt, bl, pl)).length := (succsF_len (nm, ps, rt, bl, pl)).symm
  have HGr := hide hgr
  clear b0 hv hF hgr
  generalize succsF (nm, ps, rt, bl, pl) = ll at *
  generalize bl.length = N at *
  subst hlen
  have hpos := HGr.out.2
  go_enter Tryz.func18, Tryz.ntmps18
  go_upto_region 1 with fail
  show Code.wp _ _ _ _ (w.alloc (.cells #[.string (bs nm), .slice ao ps.length c, .int .i64 rt, .slice bo ll.length cb, .int .i64 pl] 25))
  replace X0 : Hid (L5.Box (w.alloc (.cells #[.string (bs nm), .slice ao ps.length c, .int .i64 rt, .slice bo ll.length cb, .int .i64 pl] 25)) w.heap.size [.string (bs nm), .slice ao ps.length c, .int .i64 rt, .slice bo ll.length cb, .int .i64 pl]) := X0
  generalize w.alloc (.cells #[.string (bs nm), .slice ao ps.length c, .int .i64 rt, .slice bo ll.length cb, .int .i64 pl] 25) = W at *
  obtain ⟨x0, x1, x2, x3, x4⟩ : _ ∧ _ ∧ _ ∧ _ ∧ _ := ⟨X0.out.2 0 _ rfl, X0.out.2 1 _ rfl, X0.out.2 2 _ rfl, X0.out.2 3 _ rfl, X0.out.2 4 _ rfl⟩
  go_wp2_with fail
  refine HS.out.mono ?_; rintro e w1 ⟨u, rfl, hu, b1⟩
  obtain ⟨eo, ec, rfl, he, _, _⟩ := hu.read
  have B1 := hide b1
  have HEd := hide he
  clear x0 x1 x2 x3 x4 HS hu he b1
  obtain ⟨x0, x1, x2, x3, x4⟩ : _ ∧ _ ∧ _ ∧ _ ∧ _ := ⟨(X0.out.below B1.out).2 0 _ rfl, (X0.out.below B1.out).2 1 _ rfl, (X0.out.below B1.out).2 2 _ rfl, (X0.out.below B1.out).2 3 _ rfl, (X0.out.below B1.out).2 4 _ rfl⟩
  have HM := hide (rmet_any (bs nm) rt pl (-1) ll ao bo eo ps.length c cb ec w1 HEd.out hbl HGr.out HEl.out)
  go_wp2_with fail
  refine HM.out.mono ?_; rintro e W2 ⟨av, rfl, hav, b2⟩
  obtain ⟨ga, ca, rfl, ha1, ha2⟩ := own_bits hav hpos
  have B2 := hide (below_step B1.out b2)
  have HE2 := hide (HEd.out.below b2)
  have HA := hide ha2
  clear x0 x1 x2 x3 x4 HM HEd hav b2 ha2
  go_wp2_with fail
  go_loopw [5, 6] (fun v i wr => ∃ A : Nat, A ≤ ll.length ∧ i = .int .i64 A ∧ Hid (TabO W2.heap.size wr (tabTo ll A) v) ∧ Hid (Below W2.heap.size W2 wr)) (fun _ i _ => ll.length - (intOf i).toNat)
  case atStart => exact ⟨0, Nat.zero_le _, rfl, hide (TabO.nil _ _), hide (Below.refl _ _)⟩
  case round =>
    obtain ⟨A, hA, rfl, HR, HW⟩ := hrel
    have HWW := hide (below_step B2.out HW.out)
    obtain ⟨x0, x1, x2, x3, x4⟩ : _ ∧ _ ∧ _ ∧ _ ∧ _ := ⟨(X0.out.below HWW.out).2 0 _ rfl, (X0.out.below HWW.out).2 1 _ rfl, (X0.out.below HWW.out).2 2 _ rfl, (X0.out.below HWW.out).2 3 _ rfl, (X0.out.below HWW.out).2 4 _ rfl⟩
    by_cases hat : A < ll.length
    · have haI : (A : Int) < ll.length := by omega
      have HM := hide (rmet_any (bs nm) rt pl A ll ao bo eo ps.length c cb ec wr (HE2.out.below HW.out) hbl HGr.out HEl.out)
      go_wp2_with fail
      refine HM.out.mono ?_; rintro e W3 ⟨wv, rfl, hwv, b3⟩
      obtain ⟨gw, cw, rfl, hw1, hw2⟩ := own_bits hwv hpos
      have HR3 := hide (HR.out.below b3)
      have HW3 := hide (below_step HW.out b3)
      have HB3 := hide hw2
      clear x0 x1 x2 x3 x4 HM hwv b3 hw2 HR HW HWW
      go_wp2_with fail
      go_loopw [8, 9] (fun v i wq => ∃ K : Nat, K ≤ ll.length ∧ i = .int .i64 K ∧ Hid (GrB W3 (rowTo ll A K) v wq)) (fun _ i _ => ll.length - (intOf i).toNat)
      case atStart => exact ⟨0, Nat.zero_le _, rfl, hide (GrB.start _)⟩
      case round =>
        obtain ⟨K, hK, rfl, HB⟩ := hrel
        have HWq := hide (below_step HW3.out HB.out.2)
        have x3 := (X0.out.below (below_step B2.out HWq.out)).2 3 _ rfl
        have HBL : Hid ((rowTo ll A K).length = K) := hide (rowTo_len _ _ _)
        by_cases hkt : K < ll.length
        · have hkI : (K : Int) < ll.length := by omega
          have cA := (HWq.out.cell (p := ⟨ga, A, none⟩) ha1).trans (HA.out A hat)
          have cK := (HWq.out.cell (p := ⟨ga, K, none⟩) ha1).trans (HA.out K hkt)
          have cW := (HB.out.2.cell (p := ⟨gw, K, none⟩) hw1).trans (HB3.out K hkt)
          have HV : Hid (aheadB ll A K = (hasL (metE ll [0] (-1)) A && hasL (metE ll [0] (-1)) K && (decide ((A : Int) = K) || !hasL (metE ll [0] A) K))) := hide rfl
          obtain ⟨vo, vc, rfl⟩ := HB.out.len
          have hWs := HB.out.2.size
          cases h1 : hasL (metE ll [0] (-1)) A with
          | false =>
            rw [h1] at cA HV
            replace h1 := hide h1
            cases h2 : hasL (metE ll [0] (-1)) K with
            | false =>
              rw [h2] at cK HV
              replace h2 := hide h2
              have HVx : Hid (rowTo ll A (K + 1) = rowTo ll A K ++ [false]) := hide (by rw [rowTo_succ, HV.out]; simp)
              go_wp2_with (at_builtin; refine wpList_append_own _ rfl (.tmp 33) (.tmp 56) 64 rfl W3.heap.size 4 i4 _ 1 1 Tryz.underlying64 hi4 hy0 hy1 hy2 rfl (by decide) _ _ _ rfl (HB.out.1.alloc _) ⟨wr.heap.size, 0, none⟩ 1 1 [.bool false] rfl rfl one_cell one_oneB (by have := HBL.out; unfold maxLen; omega) (by have := HBL.out; omega) (by simp; omega) ?_; intro v2 w2 own2 grow2 _; refine Hid.out ?_)
              have HE : Hid (GrB W3 (rowTo ll A (K + 1)) v2 w2) := hide (by rw [HVx.out]; exact HB.out.step own2 grow2)
              clear own2 grow2
              refine hide ?_
              go_wp2_with fail
              go_roundw
              case rel => exact ⟨K + 1, by omega, by go_num, HE⟩
              case measure => simp [intOf]; omega
            | true =>
              rw [h2] at cK HV
              replace h2 := hide h2
              have HVx : Hid (rowTo ll A (K + 1) = rowTo ll A K ++ [false]) := hide (by rw [rowTo_succ, HV.out]; simp)
              go_wp2_with (at_builtin; refine wpList_append_own _ rfl (.tmp 33) (.tmp 56) 64 rfl W3.heap.size 4 i4 _ 1 1 Tryz.underlying64 hi4 hy0 hy1 hy2 rfl (by decide) _ _ _ rfl (HB.out.1.alloc _) ⟨wr.heap.size, 0, none⟩ 1 1 [.bool false] rfl rfl one_cell one_oneB (by have := HBL.out; unfold maxLen; omega) (by have := HBL.out; omega) (by simp; omega) ?_; intro v2 w2 own2 grow2 _; refine Hid.out ?_)
              have HE : Hid (GrB W3 (rowTo ll A (K + 1)) v2 w2) := hide (by rw [HVx.out]; exact HB.out.step own2 grow2)
              clear own2 grow2
              refine hide ?_
              go_wp2_with fail
              go_roundw
              case rel => exact ⟨K + 1, by omega, by go_num, HE⟩
              case measure => simp [intOf]; omega
          | true =>
            rw [h1] at cA HV
            replace h1 := hide h1
            cases h2 : hasL (metE ll [0] (-1)) K with
            | false =>
              rw [h2] at cK HV
              replace h2 := hide h2
              have HVx : Hid (rowTo ll A (K + 1) = rowTo ll A K ++ [false]) := hide (by rw [rowTo_succ, HV.out]; simp)
              go_wp2_with (at_builtin; refine wpList_append_own _ rfl (.tmp 33) (.tmp 56) 64 rfl W3.heap.size 4 i4 _ 1 1 Tryz.underlying64 hi4 hy0 hy1 hy2 rfl (by decide) _ _ _ rfl (HB.out.1.alloc _) ⟨wr.heap.size, 0, none⟩ 1 1 [.bool false] rfl rfl one_cell one_oneB (by have := HBL.out; unfold maxLen; omega) (by have := HBL.out; omega) (by simp; omega) ?_; intro v2 w2 own2 grow2 _; refine Hid.out ?_)
              have HE : Hid (GrB W3 (rowTo ll A (K + 1)) v2 w2) := hide (by rw [HVx.out]; exact HB.out.step own2 grow2)
              clear own2 grow2
              refine hide ?_
              go_wp2_with fail
              go_roundw
              case rel => exact ⟨K + 1, by omega, by go_num, HE⟩
              case measure => simp [intOf]; omega
            | true =>
              rw [h2] at cK HV
              replace h2 := hide h2
              by_cases hAK : (A : Int) = K
              · have hbe : ((A : Int) == (K : Int)) = true := beq_iff_eq.2 hAK
                replace hAK := hide hAK
                have HVx : Hid (rowTo ll A (K + 1) = rowTo ll A K ++ [true]) := hide (by rw [rowTo_succ, HV.out]; simp [hAK.out])
                go_wp2_with (at_builtin; refine wpList_append_own _ rfl (.tmp 33) (.tmp 56) 64 rfl W3.heap.size 4 i4 _ 1 1 Tryz.underlying64 hi4 hy0 hy1 hy2 rfl (by decide) _ _ _ rfl (HB.out.1.alloc _) ⟨wr.heap.size, 0, none⟩ 1 1 [.bool true] rfl rfl one_cell one_oneB (by have := HBL.out; unfold maxLen; omega) (by have := HBL.out; omega) (by simp; omega) ?_; intro v2 w2 own2 grow2 _; refine Hid.out ?_)
                have HE : Hid (GrB W3 (rowTo ll A (K + 1)) v2 w2) := hide (by rw [HVx.out]; exact HB.out.step own2 grow2)
                clear own2 grow2
                refine hide ?_
                go_wp2_with fail
                go_roundw
                case rel => exact ⟨K + 1, by omega, by go_num, HE⟩
                case measure => simp [intOf]; omega
              · have hbe : ((A : Int) == (K : Int)) = false := beq_eq_false_iff_ne.2 hAK
                replace hAK := hide hAK
                generalize hasL (metE ll [0] A) K = wo at *
                have HVx : Hid (rowTo ll A (K + 1) = rowTo ll A K ++ [(!wo)]) := hide (by rw [rowTo_succ, HV.out]; simp [hAK.out])
                go_wp2_with (at_builtin; refine wpList_append_own _ rfl (.tmp 33) (.tmp 56) 64 rfl W3.heap.size 4 i4 _ 1 1 Tryz.underlying64 hi4 hy0 hy1 hy2 rfl (by decide) _ _ _ rfl (HB.out.1.alloc _) ⟨wr.heap.size, 0, none⟩ 1 1 [.bool (!wo)] rfl rfl one_cell one_oneB (by have := HBL.out; unfold maxLen; omega) (by have := HBL.out; omega) (by simp; omega) ?_; intro v2 w2 own2 grow2 _; refine Hid.out ?_)
                have HE : Hid (GrB W3 (rowTo ll A (K + 1)) v2 w2) := hide (by rw [HVx.out]; exact HB.out.step own2 grow2)
                clear own2 grow2
                refine hide ?_
                go_wp2_with fail
                go_roundw
                case rel => exact ⟨K + 1, by omega, by go_num, HE⟩
                case measure => simp [intOf]; omega
        · obtain rfl : K = ll.length := by omega
          have HLT : Hid ((tabTo ll A).length = A) := hide (tabTo_len _ _)
          have HRq := hide (HR3.out.below HB.out.2)
          obtain ⟨us, ho, hus⟩ := HRq.out
          have HO := hide ho
          have HUS := hide hus
          have HU := hide (own_base HB.out.1 HW3.out.size)
          obtain ⟨vo, vc, rfl⟩ := HB.out.len
          obtain ⟨to, tc, rfl⟩ := HR3.out.len
          have hWs := HWq.out.size
          clear ho hus
          go_wp2_with (at_builtin; refine wpList_append_own _ rfl (.tmp 58) (.tmp 60) 38 rfl W2.heap.size 64 i5 _ 1 24 Tryz.underlying38 hi5 hx0 hx1 hx2 rfl (by decide) _ _ _ rfl (HO.out.alloc _) ⟨wr.heap.size, 0, none⟩ 1 1 [.slice vo (rowTo ll A ll.length).length vc] rfl rfl one_cell (one_any rfl) (by have := HLT.out; unfold maxLen; omega) (by have := HLT.out; omega) (by simp; omega) ?_; intro v2 w2 own2 grow2 _; refine Hid.out ?_)
          have HE : Hid (TabO W2.heap.size w2 (tabTo ll (A + 1)) v2) := hide (by
            rw [tabTo_succ]
            exact TabO.step HO.out HUS.out HU.out own2 grow2)
          have HW2 : Hid (Below W2.heap.size W2 w2) := hide (by
            refine Below.grown (HWq.out.alloc HWq.out.size _) grow2 (by simp; omega) ?_
            intro k hk
            exact (HO.out.lt k hk).1)
          clear own2 grow2
          refine hide ?_
          go_wp2_with fail
          go_roundw
          case rel => exact ⟨A + 1, by omega, by go_num, HE, HW2⟩
          case measure => simp [intOf]; omega
    · obtain rfl : A = ll.length := by omega
      have HE2 := hide (HR.out.base (Nat.le_trans B0.out.size B2.out.size))
      go_wp2_with fail
      go_ret
      exact ⟨_, rfl, HE2.out, below_step B0.out HWW.out⟩
end Go.Proofs.YtmiplohoclckcaaGreat
