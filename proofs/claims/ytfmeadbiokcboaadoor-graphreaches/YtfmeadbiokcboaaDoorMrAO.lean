/- Layer 8, the reference: ways along edges. Layer 8, the program: which blocks are reached along edges. Layer 8: what calls hand back, as properties that stay when memory grows. -/
import Derived.Test.YtfmeadbiokcboaaDoorMrAA
import Derived.Test.YtfmeadbiokcboaaDoorMrAJ
import Derived.Test.YtfmeadbiokcboaaDoorMrAK
import Derived.Test.YtfmeadbiokcboaaDoorMrAM
import Derived.Test.YtfmeadbiokcboaaDoorMrAN
namespace Go.Proofs.YtfmeadbiokcboaaDoor
open Go Go.RowKit
open G (Tok Er Ins Fun)
def addB (but : Int) (met : List Int) (m : Int) : List Int := if m = but then met else addL met m
theorem addB_but {but m : Int} {met : List Int} (h : m = but) : addB but met m = met := if_pos h
theorem addB_has {but m : Int} {met : List Int} (h : m ≠ but) (hh : hasL met m = true) : addB but met m = met := (if_neg h).trans (addL_yes hh)
theorem addB_new {but m : Int} {met : List Int} (h : m ≠ but) (hh : hasL met m = false) : addB but met m = met ++ [m] := (if_neg h).trans (addL_no hh)
def NumD (n : Nat) (l : List Int) : Prop := l.Nodup ∧ Num n l
theorem NumD.nil (n : Nat) : NumD n [] := ⟨List.nodup_nil, fun m hm => by simp at hm⟩
theorem NumD.addB {n : Nat} {met : List Int} (h : NumD n met) (but : Int) {m : Int} (hm : 0 ≤ m ∧ m < n) : NumD n (addB but met m) := by
  by_cases h1 : m = but
  · rw [addB_but h1]; exact h
  · cases h2 : hasL met m with
    | true => rw [addB_has h1 h2]; exact h
    | false =>
      rw [addB_new h1 h2]
      refine ⟨List.nodup_append.2 ⟨h.1, by simp, ?_⟩, ?_⟩
      · rintro x hx y hy rfl
        simp at hy; subst hy; exact hasL_no.1 h2 hx
      · intro x hx
        rcases List.mem_append.1 hx with hx | hx
        · exact h.2 x hx
        · simp at hx; subst hx; exact hm
def addsB (but : Int) (met l : List Int) : List Int := l.foldl (addB but) met
theorem addsB_take {but m : Int} {met l : List Int} {i : Nat} (h : l[i]? = some m) : addsB but met (l.take (i + 1)) = addB but (addsB but met (l.take i)) m := by
  unfold addsB; rw [take_more h, List.foldl_append]; rfl
theorem NumD.addsB {n : Nat} (but : Int) : ∀ (l met : List Int), NumD n met → Num n l → NumD n (addsB but met l) := by
  intro l
  induction l with
  | nil => intro met h _; exact h
  | cons m l ih => intro met h hl; exact ih _ (h.addB but (hl m (by simp))) (fun x hx => hl x (by simp [hx]))
theorem addL_ge (met : List Int) (m : Int) : met.length ≤ (addL met m).length := by
  unfold addL; split
  · omega
  · simp
theorem addB_ge (but : Int) (met : List Int) (m : Int) : met.length ≤ (addB but met m).length := by
  unfold addB; split
  · omega
  · exact addL_ge _ _
theorem addsB_len (but : Int) : ∀ (l met : List Int), met.length ≤ (addsB but met l).length := by
  intro l
  induction l with
  | nil => intro met; exact Nat.le_refl _
  | cons m l ih => intro met; exact Nat.le_trans (addB_ge but met m) (ih _)
theorem Num.take {n : Nat} {l : List Int} (h : Num n l) (k : Nat) : Num n (l.take k) := fun x hx => h x (List.mem_of_mem_take hx)
def growE (ll : List (List Int)) (but : Int) : Nat → Nat → List Int → List Int
  | 0, _, met => met
  | N + 1, i, met => match met[i]? with
    | none => met
    | some m => growE ll but N (i + 1) (addsB but met (ll.getD m.toNat []))
def metE (ll : List (List Int)) (frm : List Int) (but : Int) : List Int := growE ll but (ll.length + 1) 0 (addsB but [] frm)
theorem growE_end {ll : List (List Int)} {but : Int} {N i : Nat} {met : List Int} (h : met.length ≤ i) : growE ll but N i met = met := by
  cases N with
  | zero => rfl
  | succ N => rw [growE, List.getElem?_eq_none h]
theorem growE_step {ll : List (List Int)} {but m : Int} {N i : Nat} {met : List Int} (h : met[i]? = some m) : growE ll but (N + 1) i met = growE ll but N (i + 1) (addsB but met (ll.getD m.toNat [])) := by
  rw [growE, h]
set_option maxHeartbeats 4000000 in
set_option maxRecDepth 20000 in
theorem rpath_any (ll : List (List Int)) (frm : List Int) (to but : Int) (eo fo : Option Addr) (ec fc : Nat) (w : World) (he : RowsR w eo ll) (hf : Sl w fo frm) (hel : ll.length ≤ 1000000) (hfl : frm.length ≤ 1000000) (hfn : Num ll.length frm) (hen : ∀ l ∈ ll, Num ll.length l) (hell : ∀ l ∈ ll, l.length ≤ 1000000) :
    Calls Tryd.prog 25 #[.slice eo ll.length ec, .slice fo frm.length fc, .int .i64 to, .int .i64 but] w fun e w' => e = .returned (.bool (hasL (metE ll frm but) to)) ∧ Below w.heap.size w w' := by
  obtain ⟨i0, hi0, hz0, hz1, hz2⟩ := info_parts Tryd.info3
  have HEd := hide he
  have HFr := hide hf
  have HFn := hide hfn
  have HEn := hide hen
  have HEl := hide hell
  clear he hf hfn hen hell
  go_enter Tryd.func25, Tryd.ntmps25
  go_wp2_with fail
  go_loopw [9, 10] (fun v i wr => ∃ I : Nat, I ≤ frm.length ∧ i = .int .i64 I ∧ Hid (Grw w (addsB but [] (frm.take I)) v wr)) (fun _ i _ => frm.length - (intOf i).toNat)
  case atStart => exact ⟨0, Nat.zero_le _, rfl, hide (Grw.start _)⟩
  case round =>
    obtain ⟨I, hI, rfl, HG⟩ := hrel
    by_cases hit : I < frm.length
    · obtain ⟨m, hm⟩ : ∃ m, frm[I]? = some m := ⟨frm[I], List.getElem?_eq_getElem hit⟩
      have hiI : (I : Int) < frm.length := by omega
      have HTk := hide (addsB_take (but := but) (met := []) hm)
      have HNm : Hid (NumD ll.length (addsB but [] (frm.take I))) := hide (NumD.addsB but _ _ (NumD.nil _) (HFn.out.take I))
      rcases HFr.out with e0 | ⟨fb, fo2, rfl, f1, f2⟩
      · subst e0; simp at hit
      have c1 := (HG.out.2.cell (p := ⟨fb, fo2 + I, none⟩) f1).trans (f2 I m hm)
      generalize addsB but [] (frm.take I) = met at *
      have hml : met.length ≤ ll.length := fit_len _ _ HNm.out.1 HNm.out.2
      obtain ⟨mo, mc, rfl, s1, s2⟩ := HG.out.slice
      have HH := hide (rhas_any met m mo mc wr s1 s2)
      have hWs := HG.out.2.size
      clear f2 s1 s2 hm
      by_cases hmb : m = but
      · have HE : Hid (Grw w (addsB but [] (frm.take (I + 1))) _ wr) := hide (by rw [HTk.out, addB_but hmb]; exact HG.out)
        have hmn : (m != but) = false := by simpa using hmb
        go_wp2_with fail
        go_roundw
        case rel => exact ⟨I + 1, by omega, by go_num, HE⟩
        case measure => simp [intOf]; omega
      · have hmn : (m != but) = true := by simpa using hmb
        go_wp2_with fail
        refine HH.out.mono ?_; rintro e w8 ⟨rfl, rfl⟩
        cases hh : hasL met m with
        | true =>
          have HE : Hid (Grw w (addsB but [] (frm.take (I + 1))) _ w8) := hide (by rw [HTk.out, addB_has hmb hh]; exact HG.out)
          replace hh := hide hh
          go_wp2_with fail
          go_roundw
          case rel => exact ⟨I + 1, by omega, by go_num, HE⟩
          case measure => simp [intOf]; omega
        | false =>
          have HA := hide (HTk.out.trans (addB_new hmb hh))
          replace hh := hide hh
          go_wp2_with (at_builtin; refine wpList_append_own _ rfl (.tmp 35) (.tmp 40) 22 rfl w.heap.size 3 i0 _ 1 8 Tryd.underlying22 hi0 hz0 hz1 hz2 rfl (by decide) _ _ _ rfl (HG.out.1.alloc _) ⟨w8.heap.size, 0, none⟩ 1 1 [.int .i64 m] rfl rfl one_cell one_one (by unfold maxLen; omega) (by omega) (by simp; omega) ?_; intro v2 w2 own2 grow2 _; refine Hid.out ?_)
          have HE : Hid (Grw w (addsB but [] (frm.take (I + 1))) v2 w2) := hide (by rw [HA.out]; exact HG.out.step own2 grow2)
          clear own2 grow2
          refine hide ?_
          go_wp2_with fail
          go_roundw
          case rel => exact ⟨I + 1, by omega, by go_num, HE⟩
          case measure => simp [intOf]; omega
    · obtain rfl : I = frm.length := by omega
      have HG0 : Hid (Grw w (addsB but [] frm) _ wr) := hide (by have := HG.out; rwa [List.take_length] at this)
      clear HG
      have HN0 : Hid (NumD ll.length (addsB but [] frm)) := hide (NumD.addsB but _ _ (NumD.nil _) HFn.out)
      have HM : Hid (growE ll but (ll.length + 1 - 0) 0 (addsB but [] frm) = metE ll frm but) := hide rfl
      go_wp2_with fail
      go_loopw [9, 11] (fun v i wr => ∃ (I : Nat) (met : List Int), I ≤ met.length ∧ i = .int .i64 I ∧ Hid (Grw w met v wr) ∧ Hid (NumD ll.length met) ∧ Hid (growE ll but (ll.length + 1 - I) I met = metE ll frm but)) (fun _ i _ => ll.length + 1 - (intOf i).toNat)
      case atStart => exact ⟨0, _, Nat.zero_le _, rfl, HG0, HN0, HM⟩
      case round =>
        clear HG0 HN0 HM HFr HFn
        obtain ⟨I, met, hI, rfl, HG, HN, HM⟩ := hrel
        have hml : met.length ≤ ll.length := fit_len _ _ HN.out.1 HN.out.2
        obtain ⟨mo, mc, rfl, s1, s2⟩ := HG.out.slice
        by_cases hit : I < met.length
        · have hiI : (I : Int) < met.length := by omega
          obtain ⟨m, hm⟩ : ∃ m, met[I]? = some m := ⟨met[I], List.getElem?_eq_getElem hit⟩
          obtain ⟨hm0, hm1⟩ := HN.out.2 m (List.mem_of_getElem? hm)
          obtain ⟨M, rfl⟩ : ∃ M : Nat, m = (M : Int) := ⟨m.toNat, by omega⟩
          have hMl : M < ll.length := by omega
          obtain ⟨l, hl⟩ : ∃ l, ll[M]? = some l := ⟨ll[M], List.getElem?_eq_getElem hMl⟩
          have HMs : Hid (growE ll but (ll.length + 1 - (I + 1)) (I + 1) (addsB but met l) = metE ll frm but) := hide (by
            have e := HM.out
            rw [show ll.length + 1 - I = (ll.length + 1 - (I + 1)) + 1 by omega, growE_step hm] at e
            rw [← e, Int.toNat_natCast, List.getD_eq_getElem?_getD, hl]; rfl)
          have HLn := hide (HEn.out l (List.mem_of_getElem? hl))
          have hll := HEl.out l (List.mem_of_getElem? hl)
          rcases s1 with e0 | ⟨mb, mo2, rfl, g1, g2⟩
          · subst e0; simp at hit
          have c1 := g2 I _ hm
          rcases HEd.out with e0 | ⟨eb, eo2, rfl, d1, d2⟩
          · subst e0; simp at hMl
          obtain ⟨_, k1, ⟨lo, lc, rfl, k2, k3, k4⟩⟩ := d2 M l hl
          have c2 := (HG.out.2.cell (p := ⟨eb, eo2 + M, none⟩) d1).trans k1
          have HSl := hide (k2.below HG.out.2)
          have hlw : Hid (Sl w lo l) := hide k2
          clear g2 d2 k1 k2 hm hl s2
          go_wp2_with fail
          clear c1 c2
          generalize wr = W2 at *
          have HG0 : Hid (Grw w (addsB but met (l.take 0)) _ W2) := HG
          go_loopw [9, 13] (fun v i wq => ∃ K : Nat, K ≤ l.length ∧ i = .int .i64 K ∧ Hid (Grw w (addsB but met (l.take K)) v wq)) (fun _ i _ => l.length - (intOf i).toNat)
          case atStart => exact ⟨0, Nat.zero_le _, rfl, HG0⟩
          case round =>
            clear HG0 HG
            obtain ⟨K, hK, rfl, HG⟩ := hrel
            by_cases hkt : K < l.length
            · obtain ⟨n, hn⟩ : ∃ n, l[K]? = some n := ⟨l[K], List.getElem?_eq_getElem hkt⟩
              have hkI : (K : Int) < l.length := by omega
              have HTk := hide (addsB_take (but := but) (met := met) hn)
              have HNm : Hid (NumD ll.length (addsB but met (l.take K))) := hide (NumD.addsB but _ _ HN.out (HLn.out.take K))
              rcases hlw.out with e0 | ⟨fb, fo2, rfl, f1, f2⟩
              · subst e0; simp at hkt
              have c1 := (HG.out.2.cell (p := ⟨fb, fo2 + K, none⟩) f1).trans (f2 K n hn)
              generalize addsB but met (l.take K) = me2 at *
              have hml2 : me2.length ≤ ll.length := fit_len _ _ HNm.out.1 HNm.out.2
              obtain ⟨mo3, mc3, rfl, s1, s2⟩ := HG.out.slice
              have HH := hide (rhas_any me2 n mo3 mc3 wr s1 s2)
              have hWs := HG.out.2.size
              clear f2 s1 s2 hn
              by_cases hmb : n = but
              · have HE : Hid (Grw w (addsB but met (l.take (K + 1))) _ wr) := hide (by rw [HTk.out, addB_but hmb]; exact HG.out)
                have hmn : (n != but) = false := by simpa using hmb
                go_wp2_with fail
                go_roundw
                case rel => exact ⟨K + 1, by omega, by go_num, HE⟩
                case measure => simp [intOf]; omega
              · have hmn : (n != but) = true := by simpa using hmb
                go_wp2_with fail
                refine HH.out.mono ?_; rintro e w8 ⟨rfl, rfl⟩
                cases hh : hasL me2 n with
                | true =>
                  have HE : Hid (Grw w (addsB but met (l.take (K + 1))) _ w8) := hide (by rw [HTk.out, addB_has hmb hh]; exact HG.out)
                  replace hh := hide hh
                  go_wp2_with fail
                  go_roundw
                  case rel => exact ⟨K + 1, by omega, by go_num, HE⟩
                  case measure => simp [intOf]; omega
                | false =>
                  have HA := hide (HTk.out.trans (addB_new hmb hh))
                  replace hh := hide hh
                  go_wp2_with (at_builtin; refine wpList_append_own _ rfl (.tmp 76) (.tmp 81) 22 rfl w.heap.size 3 i0 _ 1 8 Tryd.underlying22 hi0 hz0 hz1 hz2 rfl (by decide) _ _ _ rfl (HG.out.1.alloc _) ⟨w8.heap.size, 0, none⟩ 1 1 [.int .i64 n] rfl rfl one_cell one_one (by unfold maxLen; omega) (by omega) (by simp; omega) ?_; intro v2 w2 own2 grow2 _; refine Hid.out ?_)
                  have HE : Hid (Grw w (addsB but met (l.take (K + 1))) v2 w2) := hide (by rw [HA.out]; exact HG.out.step own2 grow2)
                  clear own2 grow2
                  refine hide ?_
                  go_wp2_with fail
                  go_roundw
                  case rel => exact ⟨K + 1, by omega, by go_num, HE⟩
                  case measure => simp [intOf]; omega
            · obtain rfl : K = l.length := by omega
              have HG2 : Hid (Grw w (addsB but met l) _ wr) := hide (by have := HG.out; rwa [List.take_length] at this)
              have HN2 : Hid (NumD ll.length (addsB but met l)) := hide (NumD.addsB but _ _ HN.out HLn.out)
              have hge : met.length ≤ (addsB but met l).length := addsB_len _ _ _
              go_wp2_with fail
              go_roundw
              case rel => exact ⟨I + 1, _, by omega, by go_num, HG2, HN2, HMs⟩
              case measure => simp [intOf]; omega
        · have HE : Hid (met = metE ll frm but) := hide ((growE_end (by omega)).symm.trans HM.out)
          have HH := hide (rhas_any met to mo mc wr s1 s2)
          clear s1 s2
          have HRt : Hid (hasL met to = hasL (metE ll frm but) to) := hide (by rw [← HE.out])
          go_wp2_with fail
          refine HH.out.mono ?_; rintro e w8 ⟨rfl, rfl⟩
          go_wp2_with fail
          go_ret
          exact ⟨L5.ret_bool HRt.out, HG.out.2⟩
end Go.Proofs.YtfmeadbiokcboaaDoor
namespace Go.Proofs.YtfmeadbiokcboaaDoor
open Go Go.RowKit
open G (Tok Er Ins Fun)
/-- Of each number, whether it is one of a list. -/
def bitsOf (n : Nat) (met : List Int) : List Bool := (List.range n).map fun (b : Nat) => hasL met b
theorem bitsOf_at {n b : Nat} {met : List Int} (h : b < n) : (bitsOf n met)[b]? = some (hasL met b) := by
  unfold bitsOf; rw [List.getElem?_map, List.getElem?_range h]; rfl
theorem bitsOf_nil (n : Nat) : bitsOf n [] = List.replicate n false := by
  apply List.ext_getElem?
  intro j
  rw [List.getElem?_replicate]
  by_cases h : j < n
  · rw [bitsOf_at h, if_pos h]; rfl
  · rw [if_neg h, List.getElem?_eq_none (by simpa [bitsOf] using h)]
theorem bitsOf_snoc {n M : Nat} {met : List Int} (hM : M < n) : (bitsOf n met).set M true = bitsOf n (met ++ [(M : Int)]) := by
  apply List.ext_getElem?
  intro j
  rw [List.getElem?_set]
  have hl : ∀ met, (bitsOf n met).length = n := fun met => by simp [bitsOf]
  rw [hl]
  by_cases h : j < n
  · rw [bitsOf_at h, bitsOf_at h, hasL_snoc]
    by_cases e : M = j
    · subst e; rw [if_pos rfl, if_pos hM]; simp
    · have e2 : ¬ (M : Int) = (j : Int) := by omega
      rw [if_neg e]; simp [e2]
  · rw [List.getElem?_eq_none (by rw [hl]; omega), List.getElem?_eq_none (by rw [hl]; omega)]
    by_cases e : M = j
    · omega
    · rw [if_neg e]
/-- Reached under way: three boxes, the row of those that were met, and their list. -/
def ReW (W : World) (B g1 gm gb gl n : Nat) (but : Int) (met : List Int) (wr : World) : Prop := ∃ lv, wr.heap[gm]? = some (.cells #[.slice (some ⟨g1, 0, none⟩) n n] 46 (0, 0)) ∧ wr.heap[gb]? = some (.cells #[.int .i64 but] 3 (0, 0)) ∧ wr.heap[gl]? = some (.cells #[lv] 22 (0, 0)) ∧
  RowAt wr W.heap.size 4 g1 n (bools (bitsOf n met)) ∧ wr.ownsRow B 3 1 lv met.length (ints met) ∧ NumD n met ∧ Below W.heap.size W wr ∧ B ≤ wr.heap.size
/-- Where the boxes and the row lie. -/
def ReB (W : World) (B g1 gm gb gl : Nat) : Prop := W.heap.size ≤ gb ∧ gb < g1 ∧ g1 < gm ∧ gm < gl ∧ gl < B
theorem box1 {w : World} {c : Nat} {a : Value} {t : TypeId} (h : w.heap[c]? = some (.cells #[a] t (0, 0))) : w.cell? ⟨c, 0, none⟩ = some a ∧ w.frozen? ⟨c, 0, none⟩ = false := by
  simp [World.cell?, World.frozen?, h]
set_option maxHeartbeats 8000000 in
set_option maxRecDepth 20000 in
theorem meet_any (W : World) (B g1 gm gb gl n : Nat) (but : Int) (met l : List Int) (lo : Option Addr) (lc : Nat) (w : World) (hp : ReB W B g1 gm gb gl) (h : ReW W B g1 gm gb gl n but met w) (hs : Sl W lo l) (hn : n ≤ 1000000) (hnl : Num n l) (hll : l.length ≤ 1000000) :
    Calls Tryd.prog 37 #[.slice lo l.length lc, .pointer (some ⟨gm, 0, none⟩), .pointer (some ⟨gb, 0, none⟩), .pointer (some ⟨gl, 0, none⟩)] w fun e w' => e = .returned (.tuple #[]) ∧ ReW W B g1 gm gb gl n but (addsB but met l) w' := by
  obtain ⟨i3, hi3, hz3, hz4, hz5⟩ := info_parts Tryd.info3
  obtain ⟨p1, p2, p3, p4, p5⟩ := hp
  have HS := hide hs
  have HNl := hide hnl
  have HR0 : Hid (ReW W B g1 gm gb gl n but (addsB but met (l.take 0)) w) := hide h
  have HN0 : Hid (NumD n met) := hide (by obtain ⟨_, _, _, _, _, _, h, _⟩ := h; exact h)
  clear hs h hnl
  go_enter Tryd.func37, Tryd.ntmps37
  go_wp2_with fail
  go_loopw [9] (fun i wr => ∃ J : Nat, J ≤ l.length ∧ i = .int .i64 J ∧ Hid (ReW W B g1 gm gb gl n but (addsB but met (l.take J)) wr)) (fun i _ => l.length - (intOf i).toNat)
  case atStart => exact ⟨0, Nat.zero_le _, rfl, HR0⟩
  case round =>
    clear HR0
    obtain ⟨J, hJ, rfl, HR⟩ := hrel
    by_cases hjt : J < l.length
    · have hjI : (J : Int) < l.length := by omega
      obtain ⟨m, hm⟩ : ∃ m, l[J]? = some m := ⟨_, List.getElem?_eq_getElem hjt⟩
      obtain ⟨hm0, hm1⟩ := HNl.out m (List.mem_of_getElem? hm)
      obtain ⟨M, rfl⟩ : ∃ M : Nat, m = (M : Int) := ⟨m.toNat, by omega⟩
      have hMn : M < n := by omega
      have HTk := hide (addsB_take (but := but) (met := met) hm)
      generalize addsB but met (l.take J) = me at *
      obtain ⟨lv, q1, q2, q3, q4, q5, q6, q7, q8⟩ := HR.out
      rcases HS.out with e0 | ⟨tb, to2, rfl, t1, t2⟩
      · subst e0; simp at hjt
      have c9 := (q7.cell (p := ⟨tb, to2 + J, none⟩) t1).trans (t2 J _ hm)
      have c1 := (box1 q1).1
      have c2 := (box1 q2).1
      have c3 := (box1 q3).1
      have c4 := q4.cell (bools_at (bitsOf_at hMn))
      have z4 := q4.frozen M
      have HTh := hide (there_any M n wr)
      have hth : thereB M n = true := by simp [thereB]; omega
      rw [hth] at HTh
      have hml : me.length ≤ n := fit_len _ _ q6.1 q6.2
      have Q1 := hide q1
      have Q2 := hide q2
      have Q3 := hide q3
      have Q4 := hide q4
      have Q5 := hide q5
      have Q6 := hide q6
      have Q7 := hide q7
      clear t2 hm hth q1 q2 q3 q4 q5 q6 q7
      by_cases hmb : (M : Int) = but
      · have hmn : ((M : Int) != but) = false := by simpa using hmb
        have HE : Hid (ReW W B g1 gm gb gl n but (addsB but met (l.take (J + 1))) wr) := hide (by rw [HTk.out, addB_but hmb]; exact HR.out)
        replace hmb := hide hmb
        go_wp2_with fail
        refine HTh.out.mono ?_; rintro e wA ⟨rfl, rfl⟩
        go_wp2_with fail
        go_roundw
        case rel => exact ⟨J + 1, by omega, by go_num, HE⟩
        case measure => simp [intOf]; omega
      · have hmn : ((M : Int) != but) = true := by simpa using hmb
        cases hh : hasL me M with
        | true =>
          have HE : Hid (ReW W B g1 gm gb gl n but (addsB but met (l.take (J + 1))) wr) := hide (by rw [HTk.out, addB_has hmb hh]; exact HR.out)
          rw [hh] at c4
          replace hh := hide hh
          replace hmb := hide hmb
          go_wp2_with fail
          refine HTh.out.mono ?_; rintro e wA ⟨rfl, rfl⟩
          go_wp2_with fail
          go_roundw
          case rel => exact ⟨J + 1, by omega, by go_num, HE⟩
          case measure => simp [intOf]; omega
        | false =>
          have HA := hide (HTk.out.trans (addB_new hmb hh))
          have HND : Hid (NumD n (me ++ [(M : Int)])) := hide (by have := Q6.out.addB but (m := (M : Int)) ⟨hm0, by omega⟩; rwa [addB_new hmb hh] at this)
          rw [hh] at c4
          replace hh := hide hh
          replace hmb := hide hmb
          go_upto_region 5 with (go_at_call 31; refine HTh.out.mono ?_; rintro e wA ⟨rfl, rfl⟩)
          show Code.wp _ _ _ _ (wA.setCell ⟨g1, M, none⟩ (.bool true))
          replace Q1 : Hid ((wA.setCell ⟨g1, M, none⟩ (.bool true)).heap[gm]? = _) := hide ((Below.heap_setCell wA ⟨g1, M, none⟩ _ gm (by show gm ≠ g1; omega)).trans Q1.out)
          replace Q2 : Hid ((wA.setCell ⟨g1, M, none⟩ (.bool true)).heap[gb]? = _) := hide ((Below.heap_setCell wA ⟨g1, M, none⟩ _ gb (by show gb ≠ g1; omega)).trans Q2.out)
          replace Q3 : Hid ((wA.setCell ⟨g1, M, none⟩ (.bool true)).heap[gl]? = _) := hide ((Below.heap_setCell wA ⟨g1, M, none⟩ _ gl (by show gl ≠ g1; omega)).trans Q3.out)
          replace Q4 : Hid (RowAt (wA.setCell ⟨g1, M, none⟩ (.bool true)) W.heap.size 4 g1 n (bools (bitsOf n (me ++ [(M : Int)])))) := hide (by rw [← bitsOf_snoc hMn, ← bools_set]; exact Q4.out.set M _)
          replace Q5 : Hid ((wA.setCell ⟨g1, M, none⟩ (.bool true)).ownsRow B 3 1 lv me.length (ints me)) := hide (ownsRow_setCell_below Q5.out (a := ⟨g1, M, none⟩) (by show g1 < B; omega) _)
          replace Q7 : Hid (Below W.heap.size W (wA.setCell ⟨g1, M, none⟩ (.bool true))) := hide (Q7.out.setCell (p := ⟨g1, M, none⟩) (by show W.heap.size ≤ g1; omega) _)
          replace q8 : B ≤ (wA.setCell ⟨g1, M, none⟩ (.bool true)).heap.size := by simpa using q8
          clear c1 c2 c3 c4 c9 z4 HR
          generalize wA.setCell ⟨g1, M, none⟩ (.bool true) = wS at *
          have c3 := (box1 Q3.out).1
          obtain ⟨uo, uc, rfl⟩ := own_len Q5.out
          go_wp2_with (at_builtin; refine wpList_append_own_at _ rfl (.tmp 32) (.tmp 34) 22 rfl B 3 i3 _ 1 8 Tryd.underlying22 hi3 hz3 hz4 hz5 rfl (by decide) _ _ _ rfl (Q5.out.alloc _) ⟨wS.heap.size, 0, none⟩ 1 1 [.int .i64 M] rfl rfl one_cell one_one (by unfold maxLen; omega) (by omega) (by simp; omega) ?_; intro v2 wB own2 grow2 _ at2; refine Hid.out ?_)
          have far : ∀ g, g < B → some g ≠ (Value.slice uo me.length uc).ownBlock := fun g hg e => by have := (Q5.out.lt g e.symm).1; omega
          have old : ∀ g, g < B → wB.heap[g]? = wS.heap[g]? := fun g hg => (grow2.block g (by simp; omega) (far g hg)).trans (Below.heap_alloc wS _ g (by omega))
          have P3 : Hid (wB.heap[gl]? = some (.cells #[.slice uo me.length uc] 22 (0, 0))) := hide ((old gl p5).trans Q3.out)
          have P4 : Hid (RowAt wB W.heap.size 4 g1 n (bools (bitsOf n (me ++ [(M : Int)])))) := hide ((Q4.out.alloc _).kept grow2 (far g1 (by omega)))
          have P7 : Hid (Below W.heap.size W wB) := hide (Below.grown (Q7.out.alloc Q7.out.size _) grow2 (by have := Q7.out.size; simp; omega) (fun k hk => by have := (Q5.out.lt k hk).1; omega))
          have P8 : B ≤ wB.heap.size := by have := grow2.size; simp at this; omega
          have HE : Hid (ReW W B g1 gm gb gl n but (addsB but met (l.take (J + 1))) (wB.setCell ⟨gl, 0, none⟩ v2)) := hide (by
            rw [HA.out]
            refine ⟨v2, ?_, ?_, ?_, P4.out.other (p := ⟨gl, 0, none⟩) (by show g1 ≠ gl; omega) _, ?_, HND.out, P7.out.setCell (p := ⟨gl, 0, none⟩) (by show W.heap.size ≤ gl; omega) _, by simpa using P8⟩
            · exact (Below.heap_setCell wB ⟨gl, 0, none⟩ _ gm (by show gm ≠ gl; omega)).trans ((old gm (by omega)).trans Q1.out)
            · exact (Below.heap_setCell wB ⟨gl, 0, none⟩ _ gb (by show gb ≠ gl; omega)).trans ((old gb (by omega)).trans Q2.out)
            · have := heap_setCell_same wB gl 0 #[.slice uo me.length uc] 22 v2 P3.out
              simpa using this
            · have e : (me ++ [(M : Int)]).length = me.length + 1 := by simp
              rw [e]
              refine ownsRow_setCell_below (a := ⟨gl, 0, none⟩) ?_ (by show gl < B; omega) _
              simpa [ints] using own2)
          obtain ⟨vo, vc, rfl⟩ := own_len own2
          have k2 := (box1 P3.out).1
          have k3 := (box1 P3.out).2
          clear own2 grow2 at2 far old P3 P4 P7 Q1 Q2 Q3 Q4 Q5 Q6 Q7 c3
          refine hide ?_
          go_wp2_with fail
          go_roundw
          case rel => exact ⟨J + 1, by omega, by go_num, HE⟩
          case measure => simp [intOf]; omega
    · obtain rfl : J = l.length := by omega
      have HE : Hid (ReW W B g1 gm gb gl n but (addsB but met l) wr) := hide (by have := HR.out; rwa [List.take_length] at this)
      go_wp2_with fail
      go_end0
      exact ⟨rfl, HE.out⟩
set_option maxHeartbeats 8000000 in
set_option maxRecDepth 20000 in
theorem reached_any (ll : List (List Int)) (frm : List Int) (but : Int) (eo fo : Option Addr) (ec fc : Nat) (w : World) (he : RowsR w eo ll) (hf : Sl w fo frm) (hel : ll.length ≤ 1000000) (hfl : frm.length ≤ 1000000) (hfn : Num ll.length frm) (hen : ∀ l ∈ ll, Num ll.length l) (hell : ∀ l ∈ ll, l.length ≤ 1000000) :
    Calls Tryd.prog 24 #[.slice eo ll.length ec, .slice fo frm.length fc, .int .i64 but] w fun e w' => ∃ g, e = .returned (.slice (some ⟨g, 0, none⟩) ll.length ll.length) ∧ RowAt w' w.heap.size 4 g ll.length (bools (bitsOf ll.length (metE ll frm but))) ∧ Below w.heap.size w w' := by
  have hmf : ∀ (fn : Fn) (first cap : Array Value) (w : World), (Instr.makeFunc fn first cap).run Tryd.prog w = .ok (.func fn first cap) w := fun _ _ _ _ => rfl
  obtain ⟨i4, hi4, hy0, hy1, hy2⟩ := info_parts Tryd.info4
  have HEd := hide he
  have HFr := hide hf
  have HFn := hide hfn
  have HEn := hide hen
  have HEl := hide hell
  have B0 := hide (below_box w (.cells #[.int .i64 but] 3))
  have H0 := hide (heap_alloc_new w (.cells #[.int .i64 but] 3))
  have hz0 : w.heap.size < (w.alloc (.cells #[.int .i64 but] 3)).heap.size := by simp
  clear he hf hfn hen hell
  go_enter Tryd.func24, Tryd.ntmps24
  go_upto_region 1 with fail
  show Code.wp _ _ _ _ (w.alloc (.cells #[.int .i64 but] 3))
  generalize w.alloc (.cells #[.int .i64 but] 3) = w0 at *
  go_upto_region 2 with (at_make; refine wpList_make_full _ rfl _ _ 46 rfl w.heap.size 4 i4 _ 1 Tryd.underlying46 hi4 hy0 hy1 .i64 .i64 ll.length ll.length ll.length rfl rfl rfl rfl (by rw [hy2]; omega) (by unfold maxLen; omega) (Nat.le_of_lt hz0) ?_; intro w1 own1 grow1; refine Hid.out ?_)
  rw [made_bools] at own1
  have R1 : Hid (RowAt w1 w.heap.size 4 w0.heap.size ll.length (bools (bitsOf ll.length []))) := hide (by rw [bitsOf_nil]; exact own1)
  have b1 := grown_b grow1
  have H1 := hide ((b1.block _ hz0).trans H0.out)
  have B1 := hide (below_step B0.out b1)
  have hz1 : w0.heap.size < w1.heap.size := R1.out.lt.2
  clear own1 grow1 b1 H0
  refine hide ?_
  go_upto_region 4 with fail
  show Code.wp _ _ _ _ ((w1.alloc (.cells #[.slice (some ⟨w0.heap.size, 0, none⟩) ll.length ll.length] 46)).alloc (.cells #[.slice none 0 0] 22))
  have b2 := below_box w1 (.cells #[.slice (some ⟨w0.heap.size, 0, none⟩) ll.length ll.length] 46)
  have b3 := below_box (w1.alloc (.cells #[.slice (some ⟨w0.heap.size, 0, none⟩) ll.length ll.length] 46)) (.cells #[.slice none 0 0] 22)
  have b23 := below_step b2 b3
  have hsz : (w1.alloc (.cells #[.slice (some ⟨w0.heap.size, 0, none⟩) ll.length ll.length] 46)).heap.size = w1.heap.size + 1 := by simp
  have hsz3 : ((w1.alloc (.cells #[.slice (some ⟨w0.heap.size, 0, none⟩) ll.length ll.length] 46)).alloc (.cells #[.slice none 0 0] 22)).heap.size = w1.heap.size + 2 := by simp
  have HRW : Hid (ReW w (w1.heap.size + 2) w0.heap.size w1.heap.size w.heap.size (w1.heap.size + 1) ll.length but [] ((w1.alloc (.cells #[.slice (some ⟨w0.heap.size, 0, none⟩) ll.length ll.length] 46)).alloc (.cells #[.slice none 0 0] 22))) := hide (by
    refine ⟨.slice none 0 0, ?_, ?_, ?_, R1.out.below b23, World.ownsRow_nil _ _ _ _, NumD.nil _, below_step B1.out b23, by rw [hsz3]; exact Nat.le_refl _⟩
    · exact (b3.block _ (by rw [hsz]; omega)).trans (heap_alloc_new w1 _)
    · exact (b23.block _ (by omega)).trans H1.out
    · have := heap_alloc_new (w1.alloc (.cells #[.slice (some ⟨w0.heap.size, 0, none⟩) ll.length ll.length] 46)) (.cells #[.slice none 0 0] 22)
      rwa [hsz] at this)
  have HPB : Hid (ReB w (w1.heap.size + 2) w0.heap.size w1.heap.size w.heap.size (w1.heap.size + 1)) := hide ⟨Nat.le_refl _, hz0, hz1, by omega, by omega⟩
  clear b2 b3 b23 hsz hsz3 R1 H1 B1
  generalize (w1.alloc (.cells #[.slice (some ⟨w0.heap.size, 0, none⟩) ll.length ll.length] 46)).alloc (.cells #[.slice none 0 0] 22) = w3 at *
  have HM := hide (meet_any w _ _ _ _ _ ll.length but [] frm fo fc w3 HPB.out HRW.out HFr.out hel HFn.out hfl)
  clear hz0 hz1 B0
  go_wp2_with fail
  refine HM.out.mono ?_; rintro e w4 ⟨rfl, hr4⟩
  have HR4 : Hid (ReW w (w1.heap.size + 2) w0.heap.size w1.heap.size w.heap.size (w1.heap.size + 1) ll.length but (addsB but [] frm) w4) := hide hr4
  have HME : Hid (growE ll but (ll.length + 1 - 0) 0 (addsB but [] frm) = metE ll frm but) := hide rfl
  clear hr4 HM HRW HFr HFn
  go_wp2_with fail
  go_loopw [20] (fun i wr => ∃ (I : Nat) (met : List Int), I ≤ ll.length ∧ I ≤ met.length ∧ i = .int .i64 I ∧ Hid (ReW w (w1.heap.size + 2) w0.heap.size w1.heap.size w.heap.size (w1.heap.size + 1) ll.length but met wr) ∧ Hid (growE ll but (ll.length + 1 - I) I met = metE ll frm but)) (fun i _ => ll.length - (intOf i).toNat)
  case atStart => exact ⟨0, _, Nat.zero_le _, Nat.zero_le _, rfl, HR4, HME⟩
  case round =>
    clear HR4 HME
    obtain ⟨I, met, hI, hIm, rfl, HR, HME⟩ := hrel
    obtain ⟨lv, q1, q2, q3, q4, q5, q6, q7, q8⟩ := HR.out
    have hml : met.length ≤ ll.length := fit_len _ _ q6.1 q6.2
    have c1 := (box1 q1).1
    have c3 := (box1 q3).1
    obtain ⟨uo, uc, rfl⟩ := own_len q5
    have HQ4 := hide q4
    have HQ7 := hide q7
    by_cases hend : I = met.length
    · have HEM : Hid (met = metE ll frm but) := hide (by have := HME.out; rwa [growE_end (by omega)] at this)
      have HE : Hid (RowAt wr w.heap.size 4 w0.heap.size ll.length (bools (bitsOf ll.length (metE ll frm but))) ∧ Below w.heap.size w wr) := hide (by
        rw [← HEM.out]; exact ⟨HQ4.out, HQ7.out⟩)
      have hbe : ((I : Int) == (met.length : Int)) = true := beq_iff_eq.2 (by omega)
      clear q1 q2 q3 q4 q5 q6 q7 hend
      by_cases hit : I < ll.length
      · have hiI : (I : Int) < ll.length := by omega
        go_wp2_with fail
        go_ret
        exact ⟨_, rfl, HE.out.1, HE.out.2⟩
      · have hiI : ¬ (I : Int) < ll.length := by omega
        go_wp2_with fail
        go_ret
        exact ⟨_, rfl, HE.out.1, HE.out.2⟩
    · have hit : I < met.length := by omega
      have hiI : (I : Int) < ll.length := by omega
      have hbe : ((I : Int) == (met.length : Int)) = false := beq_eq_false_iff_ne.2 (by omega)
      obtain ⟨m, hm⟩ : ∃ m, met[I]? = some m := ⟨met[I], List.getElem?_eq_getElem hit⟩
      obtain ⟨hm0, hm1⟩ := q6.2 m (List.mem_of_getElem? hm)
      obtain ⟨M, rfl⟩ : ∃ M : Nat, m = (M : Int) := ⟨m.toNat, by omega⟩
      have hMl : M < ll.length := by omega
      obtain ⟨l, hl⟩ : ∃ l, ll[M]? = some l := ⟨ll[M], List.getElem?_eq_getElem hMl⟩
      have HMs : Hid (growE ll but (ll.length + 1 - (I + 1)) (I + 1) (addsB but met l) = metE ll frm but) := hide (by
        have e := HME.out
        rw [show ll.length + 1 - I = (ll.length + 1 - (I + 1)) + 1 by omega, growE_step hm] at e
        rw [← e, Int.toNat_natCast, List.getD_eq_getElem?_getD, hl]; rfl)
      have HLn := hide (HEn.out l (List.mem_of_getElem? hl))
      have hll := HEl.out l (List.mem_of_getElem? hl)
      rcases HEd.out with e0 | ⟨eb, eo2, rfl, d1, d2⟩
      · subst e0; simp at hMl
      obtain ⟨_, k1, ⟨lo, lc, rfl, k2, k3, k4⟩⟩ := d2 M l hl
      have c2 := (q7.cell (p := ⟨eb, eo2 + M, none⟩) d1).trans k1
      obtain ⟨gq, rfl, c5, _⟩ := own_cell q5 hm
      have hge : met.length ≤ (addsB but met l).length := addsB_len _ _ _
      have HM := hide (meet_any w _ _ _ _ _ ll.length but met l lo lc wr HPB.out HR.out k2 hel HLn.out hll)
      have hitI : (I : Int) < met.length := by omega
      clear q1 q2 q3 q4 q5 q6 q7 d2 k1 k2 hm hl hend
      go_wp2_with fail
      refine HM.out.mono ?_; rintro e w5 ⟨rfl, hr5⟩
      have HR5 : Hid (ReW w (w1.heap.size + 2) w0.heap.size w1.heap.size w.heap.size (w1.heap.size + 1) ll.length but (addsB but met l) w5) := hide hr5
      clear hr5 HM c1 c2 c3 c5
      go_wp2_with fail
      go_roundw
      case rel => exact ⟨I + 1, _, by omega, by omega, by go_num, HR5, HMs⟩
      case measure => simp [intOf]; omega
end Go.Proofs.YtfmeadbiokcboaaDoor
namespace Go.Proofs.YtfmeadbiokcboaaDoor
open Go Go.RowKit
open G (Tok Er Ins Fun)
open Mix (Up)
/-- Pairs that lie one by one. -/
def PairsV (w : World) (l : List (Int × Int)) (v : Value) : Prop := ∃ ao c, v = .slice ao l.length c ∧ (l = [] ∨ ∃ b, ao = some ⟨b, 0, none⟩ ∧ b < w.heap.size ∧ ∀ (i : Nat) (p : Int × Int), l[i]? = some p → w.cell? ⟨b, i * 2, none⟩ = some (.int .i64 p.1) ∧ w.cell? ⟨b, i * 2 + 1, none⟩ = some (.int .i64 p.2)) ∧ l.length ≤ maxLen
theorem PairsV.below {w w' : World} {l : List (Int × Int)} {v : Value} (h : PairsV w l v) (hb : Below w.heap.size w w') : PairsV w' l v := by
  obtain ⟨ao, c, e, h1, h2⟩ := h
  refine ⟨ao, c, e, ?_, h2⟩
  rcases h1 with h1 | ⟨b, e2, hl, hc⟩
  · exact .inl h1
  · exact .inr ⟨b, e2, Nat.lt_of_lt_of_le hl hb.size, fun i p hi => ⟨(hb.cell (p := ⟨b, i * 2, none⟩) hl).trans (hc i p hi).1, (hb.cell (p := ⟨b, i * 2 + 1, none⟩) hl).trans (hc i p hi).2⟩⟩
theorem pairsC_at (l : List (Int × Int)) (i : Nat) (p : Int × Int) (h : l[i]? = some p) : (pairsC l)[i * 2]? = some (.int .i64 p.1) ∧ (pairsC l)[i * 2 + 1]? = some (.int .i64 p.2) := by
  induction l generalizing i with
  | nil => simp at h
  | cons q l ih =>
    cases i with
    | zero => simp at h; subst h; simp [pairsC]
    | succ i =>
      have e1 : (i + 1) * 2 = i * 2 + 2 := by omega
      have := ih i (by simpa using h)
      rw [e1]
      simpa [pairsC] using this
theorem pairs_read {B : Nat} {w : World} {l : List (Int × Int)} {v : Value} (h : w.ownsRow B 44 2 v l.length (pairsC l)) : PairsV w l v := by
  rcases own_view h with ⟨rfl, hn⟩ | ⟨g, cap, rfl, h1, h2, h3, h4, h5, h6⟩
  · have e : l = [] := List.length_eq_zero_iff.1 hn
    subst e
    exact ⟨none, 0, rfl, .inl rfl, Nat.zero_le _⟩
  · exact ⟨some ⟨g, 0, none⟩, cap, rfl, .inr ⟨g, rfl, h4, fun i p hi => ⟨h5 _ _ (pairsC_at l i p hi).1, h5 _ _ (pairsC_at l i p hi).2⟩⟩, Nat.le_trans h1 h2⟩
def Up.rows (ll : List (List Int)) : Up := ⟨fun v w => RowsV w ll v, fun _ _ _ b h => h.below b⟩
def Up.ints (l : List Int) : Up := ⟨fun v w => IntsV w l v, fun _ _ _ b h => h.below b⟩
def Up.pairs (l : List (Int × Int)) : Up := ⟨fun v w => PairsV w l v, fun _ _ _ b h => h.below b⟩
theorem calls_exist {P : Program} {f : FuncId} {args : Array Value} {w : World} {R : Ending → World → Prop} (h : Calls P f args w R) : ∃ e w', R e w' := by
  obtain ⟨e, w', _, h1, _⟩ := h []
  exact ⟨e, w', h1⟩
theorem valid_of {W : World} {F : Tmp → Up} {d : Tmp} {f : FuncId} {args : Array Value} (h : Calls Tryd.prog f args W fun e w' => ∃ v, e = .returned v ∧ Below W.heap.size W w' ∧ (F d).1 v w') : ∃ v, Mix.Valid W F (some d) v := by
  obtain ⟨e, w', v, _, b, hf⟩ := calls_exist h
  exact ⟨v, w', b, fun d' hd => by cases hd; exact hf⟩
theorem valid_eq {W : World} {F : Tmp → Up} {d : Tmp} (c : Value) (h : (F d).1 c W) : ∃ v, Mix.Valid W F (some d) v := ⟨c, W, Below.refl _ _, fun d' hd => by cases hd; exact h⟩
end Go.Proofs.YtfmeadbiokcboaaDoor
