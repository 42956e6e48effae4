/- Layer 12, the reference over memory: what is reached. -/
import Derived.Test.YthmeafnofckoiaaDoorPmI
namespace Go.Proofs.YthmeafnofckoiaaDoor
open Go Go.RowKit
open Layertwelve (Ob trapF objN loadF storeF slotF wordsF shapeF makeF firstF slotsF goF reachF Ok)

theorem meet_no {n : Nat} {x : Int} {out : List Int} (h : ¬ (1 ≤ x ∧ x ≤ (n : Int) ∧ x ∉ out)) : meetF n x out = out := by unfold meetF; rw [if_neg h]
theorem meet_yes {n : Nat} {x : Int} {out : List Int} (h : 1 ≤ x ∧ x ≤ (n : Int) ∧ x ∉ out) : meetF n x out = out ++ [x] := by unfold meetF; rw [if_pos h]
theorem box62_grow {a b : World} {B n : Nat} {v : Value} {xs : List Value} {x : Int} {q : Nat} {c : Array Value} (h : a.ownsRow B 3 1 v n xs) (hg : (a.alloc (.cells #[.int .i64 x] 3)).grownBy b v.ownBlock) (hq : a.heap[q]? = some (.cells c 62 (0, 0))) : b.heap[q]? = some (.cells c 62 (0, 0)) := by
  have hs := (Array.getElem?_eq_some_iff.1 hq).1
  have bx := below_box a (.cells #[.int .i64 x] 3)
  exact (hg.block q (Nat.lt_of_lt_of_le hs bx.size) (fun e => own_ne h hq (by decide) e.symm)).trans ((bx.block q hs).trans hq)
set_option maxHeartbeats 8000000 in
set_option maxRecDepth 20000 in
theorem rreach_any (l : List Ob) (from_ : List Int) (ao : Option Addr) (c : Nat) (fo : Option Addr) (fc : Nat) (w : World) (hp : ObjsR w l (.slice ao l.length c)) (hs : ∀ o ∈ l, Sh o) (hl : l.length ≤ 1000) (hf : IntsR w from_ fo) (hfl : from_.length ≤ 1000) :
    Calls Tryd.prog 25 #[.slice ao l.length c, .slice fo from_.length fc] w fun e w' => ∃ v, e = .returned v ∧ OutR w (reachF has l from_) v w' := by
  obtain ⟨i0, hi0, hiz, his, hib⟩ := info12_parts Tryd.info3
  have HF : Hid (∀ i, i < from_.length → ∃ b o, fo = some ⟨b, o, none⟩ ∧ ∀ w', Below w.heap.size w w' → w'.cell? ⟨b, o + i, none⟩ = some (.int .i64 (from_.getD i 0))) := hide (fun i hi => by
    rcases hf with h | ⟨b, o, e, hb, h⟩
    · subst h; simp at hi
    · exact ⟨b, o, e, fun w' bl => (bl.cell (p := ⟨b, o + i, none⟩) hb).trans (h i _ (by rw [List.getD_eq_getElem?_getD, List.getElem?_eq_getElem hi]; rfl))⟩)
  have HOk : Hid (∀ i, Ok l.length (firstF l.length (from_.take i) [])) := hide (fun i => (Layertwelve.first_ok (n := l.length) (from_.take i) [] ⟨by simp, by simp⟩).1)
  have HT : Hid (∀ i, i < from_.length → firstF l.length (from_.take (i + 1)) [] = meetF l.length (from_.getD i 0) (firstF l.length (from_.take i) [])) := hide (fun i hi => by
    rw [List.take_add_one, List.getElem?_eq_getElem hi]
    simp only [Option.toList_some]
    rw [firstF_meet, List.getD_eq_getElem?_getD, List.getElem?_eq_getElem hi]; rfl)
  have HTl : Hid (from_.take from_.length = from_) := hide List.take_length
  have HHas := hide (fun (out : List Int) (x : Int) (vo : Option Addr) (vc : Nat) (wr : World) (ho : Ok l.length out) (h : IntsR wr out vo) => rhas_any out x vo vc wr h (Nat.le_trans ho.len (by omega)))
  obtain ⟨R0, hR0⟩ : ∃ r, r = reachF has l from_ := ⟨_, rfl⟩
  rw [← hR0]
  have HRe := hide hR0
  clear hR0
  have HP := hide hp
  have HS := hide hs
  clear hf hp hs
  obtain ⟨fl, hfle⟩ : ∃ n, n = from_.length := ⟨_, rfl⟩
  rw [← hfle] at HF HT HTl hfl ⊢
  clear hfle
  go_enter Tryd.func25, Tryd.ntmps25
  go_wp2_with fail
  go_loopw [5, 6] (fun ov iv wr => ∃ i : Nat, i ≤ fl ∧ iv = .int .i64 i ∧ Hid (OutR w (firstF l.length (from_.take i) []) ov wr)) (fun _ iv _ => fl - (intOf iv).toNat)
  case atStart => exact ⟨0, Nat.zero_le _, rfl, hide ⟨World.ownsRow_nil _ _ _ _, Below.refl _ _⟩⟩
  case round =>
    obtain ⟨i, hi, rfl, HV⟩ := hrel
    by_cases hit : i < fl
    · obtain ⟨vo, vc, rfl⟩ := own12_len HV.out.1
      have hiI : (i : Int) < fl := by omega
      obtain ⟨b, o, rfl, d⟩ := HF.out i hit
      have d0 := d wr HV.out.2
      clear d
      have HTi := hide (HT.out i hit)
      have HOi := hide (HOk.out i)
      have CH := hide (HHas.out _ (from_.getD i 0) vo vc wr HOi.out (ints_row HV.out.1))
      have hol := HOi.out.len
      generalize from_.getD i 0 = x at *
      generalize firstF l.length (from_.take i) [] = out at *
      by_cases h1 : 1 ≤ x
      case' neg =>
        have HN : Hid (OutR w (firstF l.length (from_.take (i + 1)) []) (.slice vo out.length vc) wr) := hide (by rw [HTi.out, meet_no (fun q => h1 q.1)]; exact HV.out)
        clear HTi CH
        go_wp2_with fail
        go_roundw
        case rel => exact ⟨i + 1, by omega, by go_num, HN⟩
        case measure => simp [intOf]; omega
      by_cases h2 : x ≤ (l.length : Int)
      case' neg =>
        have HN : Hid (OutR w (firstF l.length (from_.take (i + 1)) []) (.slice vo out.length vc) wr) := hide (by rw [HTi.out, meet_no (fun q => h2 q.2.1)]; exact HV.out)
        clear HTi CH
        go_wp2_with fail
        go_roundw
        case rel => exact ⟨i + 1, by omega, by go_num, HN⟩
        case measure => simp [intOf]; omega
      by_cases h3 : x ∈ out
      case' pos =>
        have HN : Hid (OutR w (firstF l.length (from_.take (i + 1)) []) (.slice vo out.length vc) wr) := hide (by rw [HTi.out, meet_no (fun q => q.2.2 h3)]; exact HV.out)
        rw [decide_eq_true h3] at CH
        clear HTi h3
        go_wp2_with fail
        refine CH.out.mono ?_; rintro e w2 ⟨rfl, hw2⟩
        rw [hw2]
        clear hw2 CH
        go_wp2_with fail
        go_roundw
        case rel => exact ⟨i + 1, by omega, by go_num, HN⟩
        case measure => simp [intOf]; omega
      have HN : Hid (∀ v' w', w'.ownsRow w.heap.size 3 1 v' (out.length + 1) (ints12 out ++ [.int .i64 x]) → (wr.alloc (.cells #[.int .i64 x] 3)).grownBy w' (Value.slice vo out.length vc).ownBlock → OutR w (firstF l.length (from_.take (i + 1)) []) v' w') := hide (fun v' w' o g => by rw [HTi.out, meet_yes ⟨h1, h2, h3⟩]; exact HV.out.step o g)
      rw [decide_eq_false h3] at CH
      have HO := hide HV.out.1
      have hz3 : w.heap.size ≤ wr.heap.size := HV.out.2.size
      clear HTi h3
      go_wp2_with fail
      refine CH.out.mono ?_; rintro e w2 ⟨rfl, hw2⟩
      rw [hw2]
      clear hw2 CH HV
      go_wp2_with (at_builtin; refine wpList_append_own_at _ rfl (.tmp 40) (.tmp 45) 48 rfl w.heap.size 3 i0 _ 1 8 Tryd.underlying48 hi0 hiz his hib rfl (by decide) (.slice vo out.length vc) out.length (ints12 out) rfl (HO.out.alloc _) ⟨wr.heap.size, 0, none⟩ 1 1 [.int .i64 x] rfl rfl one12_cell one12_one (by unfold maxLen; omega) (by omega) (by simp; omega) ?_; intro v5 w5 own5 grow5 _ at5; refine Hid.out ?_)
      obtain ⟨vo5, vc5, hv5⟩ := own12_len own5
      subst hv5
      have HN2 := hide (HN.out _ w5 own5 grow5)
      clear HN own5 grow5 at5 HO
      refine hide ?_
      go_wp2_with fail
      go_roundw
      case rel => exact ⟨i + 1, by omega, by go_num, HN2⟩
      case measure => simp [intOf]; omega
    · obtain rfl : i = fl := by omega
      rw [HTl.out] at HV
      have HO1 := HOk.out i
      rw [HTl.out] at HO1
      replace HO1 := hide HO1
      clear HF HT HTl HOk
      have HG0 : Hid (goF has l (l.length + 1 - 0) 0 (firstF l.length from_ []) = R0) := hide (by rw [HRe.out]; rfl)
      generalize firstF l.length from_ [] = out0 at *
      clear HRe
      go_wp2_with fail
      go_loopw [5, 7] (fun ov nv wr => ∃ (k : Nat) (out : List Int), nv = .int .i64 k ∧ k ≤ out.length ∧ Hid (Ok l.length out) ∧ Hid (OutR w out ov wr) ∧ Hid (goF has l (l.length + 1 - k) k out = R0)) (fun _ nv _ => l.length + 1 - (intOf nv).toNat)
      case atStart => exact ⟨0, out0, rfl, Nat.zero_le _, HO1, HV, HG0⟩
      case round =>
        obtain ⟨k, out, rfl, hk, HO, HV2, HG⟩ := hrel
        clear HG0 HO1 HV
        have hlen := HO.out.len
        obtain ⟨vo, vc, rfl⟩ := own12_len HV2.out.1
        by_cases hkt : k < out.length
        · have hkI : (k : Int) < (out.length : Int) := by omega
          have hx := HO.out.2 (out.getD k 0) (List.mem_of_getElem? (show out[k]? = some (out.getD k 0) by rw [List.getD_eq_getElem?_getD, List.getElem?_eq_getElem hkt]; rfl))
          rcases ints_row HV2.out.1 with e | ⟨rb, ro, rfl, hrb, hrc⟩
          · subst e; simp at hkt
          have d0 := hrc k (out.getD k 0) (by rw [List.getD_eq_getElem?_getD, List.getElem?_eq_getElem hkt]; rfl)
          clear hrc
          obtain ⟨g, o, i, hi, rfl, hgg, hmem, hobj⟩ := objs_at HP.out (id := out.getD k 0) hx.1 hx.2
          obtain ⟨n1, n2, n3⟩ := HS.out _ hmem
          obtain ⟨so, sc, e0, e1, e2, e3, _⟩ := hobj
          have hil : i < l.length := by omega
          have hilI : (i : Int) < (l.length : Int) := by omega
          have HG2 : Hid (goF has l (l.length + 1 - (k + 1)) (k + 1) (slotsF has l.length (objN l (out.getD k 0)) (objN l (out.getD k 0)).2.length 0 out) = R0) := hide (by
            rw [← HG.out]
            have e : l.length + 1 - k = (l.length + 1 - (k + 1)) + 1 := by omega
            rw [e]
            show _ = (if k < out.length then _ else _)
            rw [if_pos hkt])
          have hxe : out.getD k 0 = (i : Int) + 1 := by omega
          rw [hxe] at HG2 d0 e0 e1 e2 e3 n1 n2 n3
          have hw : IntKind.i64.wrap ((i : Int) + 1 - 1) = (i : Int) := by rw [IntWalk.i64_in _ ⟨by omega, by omega⟩]; omega
          replace e0 := (HV2.out.2.cell (p := ⟨g, o + i * 3, none⟩) hgg).trans e0
          replace e1 := (HV2.out.2.cell (p := ⟨g, o + i * 3 + 1, none⟩) hgg).trans e1
          replace e2 := (HV2.out.2.cell (p := ⟨g, o + i * 3 + 2, none⟩) hgg).trans e2
          clear hi hmem hx HG hxe hgg hrb
          generalize objN l ((i : Int) + 1) = xo at *
          have hxl : xo.2.length ≤ 16 := by omega
          have HE3 := hide (fun (s : Nat) (hs : s < xo.2.length) (w' : World) (bl : Below w.heap.size w w') => show ∃ b p, so = some ⟨b, p, none⟩ ∧ w'.cell? ⟨b, p + s, none⟩ = some (.int .i64 (xo.2.getD s 0)) by
            rcases e3 with q | ⟨b, p, q1, q2, q3⟩
            · rw [q] at hs; simp at hs
            · exact ⟨b, p, q1, (bl.cell (p := ⟨b, p + s, none⟩) q2).trans (q3 s _ (by rw [List.getD_eq_getElem?_getD, List.getElem?_eq_getElem hs]; rfl))⟩)
          have HPt := hide (fun (s : Int) (w' : World) => refPointer_any xo.1.1 xo.1.2 s w' n1 n2)
          clear n1 n2 n3 e3
          obtain ⟨xl, hxe2⟩ : ∃ n, n = xo.2.length := ⟨_, rfl⟩
          rw [← hxe2] at e2 hxl HE3 HG2
          have HXE := hide hxe2
          clear hxe2
          obtain ⟨xn, hxn⟩ : ∃ n, n = xo.1.1 := ⟨_, rfl⟩
          obtain ⟨xm, hxm⟩ : ∃ n, n = xo.1.2 := ⟨_, rfl⟩
          rw [← hxn] at e0 HPt
          rw [← hxm] at e1 HPt
          have HXn := hide hxn
          have HXm := hide hxm
          clear hxn hxm
          have bM := below_box wr (.cells #[.int .i64 (xn : Int), .int .i64 (xm : Int), .slice so xl sc] 62)
          have hM := heap_alloc_new wr (.cells #[.int .i64 (xn : Int), .int .i64 (xm : Int), .slice so xl sc] 62)
          have HV3 := hide (HV2.out.below bM)
          have HMb := hide hM
          clear hM bM HV2
          go_upto_region 11 with fail
          show Code.wp _ _ _ _ (wr.alloc (.cells #[.int .i64 (xn : Int), .int .i64 (xm : Int), .slice so xl sc] 62))
          generalize wr.alloc (.cells #[.int .i64 (xn : Int), .int .i64 (xm : Int), .slice so xl sc] 62) = W2 at *
          generalize wr.heap.size = bb at *
          clear d0 e0 e1 e2
          go_wp2_with fail
          go_loopw [5, 9] (fun ov iv wr => ∃ (s : Nat) (cur : List Int), iv = .int .i64 s ∧ s ≤ xl ∧ k < cur.length ∧ Hid (Ok l.length cur) ∧ Hid (OutR w cur ov wr) ∧ Hid (slotsF has l.length xo (xl - s) s cur = slotsF has l.length xo xl 0 out) ∧ Hid (wr.heap[bb]? = some (.cells #[.int .i64 (xn : Int), .int .i64 (xm : Int), .slice so xl sc] 62 (0, 0)))) (fun _ iv _ => xl - (intOf iv).toNat)
          case atStart => exact ⟨0, out, rfl, Nat.zero_le _, hkt, HO, HV3, hide rfl, HMb⟩
          case round =>
            obtain ⟨s, cur, rfl, hsl, hkc, HOc, HVc, HSc, HBc⟩ := hrel
            clear HV3 HMb
            obtain ⟨uo, uc, rfl⟩ := own12_len HVc.out.1
            obtain ⟨⟨z0, z1, z2⟩, _⟩ := three_cells HBc.out
            have hol := HOc.out.len
            by_cases hst : s < xl
            · have hsI : (s : Int) < (xl : Int) := by omega
              obtain ⟨sb, sp, rfl, dS⟩ := HE3.out s hst wr HVc.out.2
              have CP := hide (HPt.out (s : Int) wr)
              cases hh : has xn xm (s : Int) with
              | false =>
                rw [hh] at CP
                have HS2 : Hid (slotsF has l.length xo (xl - (s + 1)) (s + 1) cur = slotsF has l.length xo xl 0 out) := hide (by
                  rw [← HSc.out, show xl - s = (xl - (s + 1)) + 1 by omega, slotsF_pass (by rw [← HXn.out, ← HXm.out]; exact hh)])
                clear HSc hh
                generalize xo.2.getD s 0 = y at *
                go_wp2_with fail
                refine CP.out.mono ?_; rintro e w4 ⟨rfl, b4⟩
                have HR5 := hide (HVc.out.below b4)
                have HB5 : Hid (w4.heap[bb]? = some (.cells #[.int .i64 (xn : Int), .int .i64 (xm : Int), .slice (some ⟨sb, sp, none⟩) xl sc] 62 (0, 0))) := hide ((b4.block bb (Array.getElem?_eq_some_iff.1 HBc.out).1).trans HBc.out)
                clear b4 CP HVc HBc z0 z1 z2
                go_wp2_with fail
                go_roundw
                case rel => exact ⟨s + 1, cur, by go_num, by omega, hkc, HOc, HR5, HS2, HB5⟩
                case measure => simp [intOf]; omega
              | true =>
                rw [hh] at CP
                have HS2 : Hid (slotsF has l.length xo (xl - (s + 1)) (s + 1) (meetF l.length (xo.2.getD s 0) cur) = slotsF has l.length xo xl 0 out) := hide (by
                  rw [← HSc.out, show xl - s = (xl - (s + 1)) + 1 by omega, slotsF_meet (by rw [← HXn.out, ← HXm.out]; exact hh)])
                clear HSc hh
                generalize xo.2.getD s 0 = y at *
                have HNl : Hid (k < (meetF l.length y cur).length) := hide (Nat.lt_of_lt_of_le hkc meet_len)
                have HOn := hide (Ok.meet (x := y) HOc.out)
                go_upto_region 15 with fail
                clear z2 dS
                by_cases h1 : 1 ≤ y
                case' neg =>
                  rw [meet_no (fun q => h1 q.1)] at HS2
                  go_wp2_with fail
                  refine CP.out.mono ?_; rintro e w4 ⟨rfl, b4⟩
                  have HR5 := hide (HVc.out.below b4)
                  have HB5 : Hid (w4.heap[bb]? = some (.cells #[.int .i64 (xn : Int), .int .i64 (xm : Int), .slice (some ⟨sb, sp, none⟩) xl sc] 62 (0, 0))) := hide ((b4.block bb (Array.getElem?_eq_some_iff.1 HBc.out).1).trans HBc.out)
                  clear b4 CP HVc HBc z0 z1
                  go_wp2_with fail
                  go_roundw
                  case rel => exact ⟨s + 1, cur, by go_num, by omega, hkc, HOc, HR5, HS2, HB5⟩
                  case measure => simp [intOf]; omega
                by_cases h2 : y ≤ (l.length : Int)
                case' neg =>
                  rw [meet_no (fun q => h2 q.2.1)] at HS2
                  go_wp2_with fail
                  refine CP.out.mono ?_; rintro e w4 ⟨rfl, b4⟩
                  have HR5 := hide (HVc.out.below b4)
                  have HB5 : Hid (w4.heap[bb]? = some (.cells #[.int .i64 (xn : Int), .int .i64 (xm : Int), .slice (some ⟨sb, sp, none⟩) xl sc] 62 (0, 0))) := hide ((b4.block bb (Array.getElem?_eq_some_iff.1 HBc.out).1).trans HBc.out)
                  clear b4 CP HVc HBc z0 z1
                  go_wp2_with fail
                  go_roundw
                  case rel => exact ⟨s + 1, cur, by go_num, by omega, hkc, HOc, HR5, HS2, HB5⟩
                  case measure => simp [intOf]; omega
                by_cases h3 : y ∈ cur
                case' pos =>
                  rw [meet_no (fun q => q.2.2 h3)] at HS2
                  go_wp2_with fail
                  refine CP.out.mono ?_; rintro e w4 ⟨rfl, b4⟩
                  have HR5 := hide (HVc.out.below b4)
                  have HB5 : Hid (w4.heap[bb]? = some (.cells #[.int .i64 (xn : Int), .int .i64 (xm : Int), .slice (some ⟨sb, sp, none⟩) xl sc] 62 (0, 0))) := hide ((b4.block bb (Array.getElem?_eq_some_iff.1 HBc.out).1).trans HBc.out)
                  clear b4 CP HVc HBc z0 z1
                  have CH := hide (HHas.out cur y uo uc w4 HOc.out (ints_row HR5.out.1))
                  rw [decide_eq_true h3] at CH
                  clear h3
                  go_wp2_with fail
                  refine CH.out.mono ?_; rintro e w5 ⟨rfl, hw5⟩
                  rw [hw5]
                  clear hw5 CH
                  go_wp2_with fail
                  go_roundw
                  case rel => exact ⟨s + 1, cur, by go_num, by omega, hkc, HOc, HR5, HS2, HB5⟩
                  case measure => simp [intOf]; omega
                rw [meet_yes ⟨h1, h2, h3⟩] at HS2 HNl HOn
                go_wp2_with fail
                refine CP.out.mono ?_; rintro e w4 ⟨rfl, b4⟩
                have HR5 := hide (HVc.out.below b4)
                have HB5 : Hid (w4.heap[bb]? = some (.cells #[.int .i64 (xn : Int), .int .i64 (xm : Int), .slice (some ⟨sb, sp, none⟩) xl sc] 62 (0, 0))) := hide ((b4.block bb (Array.getElem?_eq_some_iff.1 HBc.out).1).trans HBc.out)
                clear b4 CP HVc HBc z0 z1
                have CH := hide (HHas.out cur y uo uc w4 HOc.out (ints_row HR5.out.1))
                rw [decide_eq_false h3] at CH
                clear h3
                have HOw := hide HR5.out.1
                have hz3 : w.heap.size ≤ w4.heap.size := HR5.out.2.size
                go_wp2_with fail
                refine CH.out.mono ?_; rintro e w5 ⟨rfl, hw5⟩
                rw [hw5]
                clear hw5 CH
                go_wp2_with (at_builtin; refine wpList_append_own_at _ rfl (.tmp 93) (.tmp 95) 48 rfl w.heap.size 3 i0 _ 1 8 Tryd.underlying48 hi0 hiz his hib rfl (by decide) (.slice uo cur.length uc) cur.length (ints12 cur) rfl (HOw.out.alloc _) ⟨w4.heap.size, 0, none⟩ 1 1 [.int .i64 y] rfl rfl one12_cell one12_one (by unfold maxLen; omega) (by omega) (by simp; omega) ?_; intro v5 w6 own5 grow5 _ at5; refine Hid.out ?_)
                obtain ⟨vo5, vc5, hv5⟩ := own12_len own5
                subst hv5
                have HN2 := hide (HR5.out.step own5 grow5)
                have HB6 := hide (box62_grow HOw.out grow5 HB5.out)
                clear own5 grow5 at5 HOw HR5 HB5
                refine hide ?_
                go_wp2_with fail
                go_roundw
                case rel => exact ⟨s + 1, cur ++ [y], by go_num, by omega, HNl.out, HOn, HN2, HS2, HB6⟩
                case measure => simp [intOf]; omega
            · obtain rfl : s = xl := by omega
              have HC2 : Hid (cur = slotsF has l.length xo s 0 out) := hide (by
                rw [← HSc.out, Nat.sub_self]; rfl)
              have HG3 : Hid (goF has l (l.length + 1 - (k + 1)) (k + 1) cur = R0) := hide (by rw [HC2.out]; exact HG2.out)
              clear HSc HC2 HG2
              go_wp2_with fail
              go_roundw
              case rel => exact ⟨k + 1, cur, by go_num, hkc, HOc, HVc, HG3⟩
              case measure => simp [intOf]; omega
        · obtain rfl : k = out.length := by omega
          have HQ : Hid (out = R0) := hide (by
            rw [← HG.out]
            have e : l.length + 1 - out.length = (l.length - out.length) + 1 := by omega
            rw [e]
            show _ = (if out.length < out.length then _ else out)
            rw [if_neg (Nat.lt_irrefl _)])
          have HE : Hid (OutR w R0 (.slice vo out.length vc) wr) := hide (by rw [← HQ.out]; exact HV2.out)
          clear HV2 HQ HG
          go_wp2_with fail
          go_ret
          exact ⟨_, rfl, HE.out⟩
end Go.Proofs.YthmeafnofckoiaaDoor
