/- Layer 6, the reference's reader, where nothing is wrong: a block. Layer 6, the reference's reader, where nothing is wrong: a function. Layer 6, the reference's reader, where nothing is wrong: a function is read. -/
import Derived.Test.YtnlcpfijfjbgjaaWaAQ
namespace Go.Proofs.Ytnlcpfijfjbgjaa
open Go Go.RowKit
open G (Tok Er Ins Fun peek0 peek1 atOf)
theorem rprint' (n : Int) (w : World) (h0 : -9223372036854775808 ≤ n) (h1 : n ≤ 9223372036854775807) : Calls Try.prog 65 #[.int .i64 n] w fun e w' => e = .returned (.string (bs (dig n))) ∧ Below w.heap.size w w' := L1.refPrint_all n w h0 h1
theorem mark_dig {c : UInt8} {most v : Int} {s : List UInt8} (h : G.mark idxF c most s = some v) : s = c :: dig v := by
  obtain ⟨r, rfl, hr, hi⟩ := mark_some h
  by_cases h1 : (L1.readNum r).2 = 0
  · by_cases h2 : (L1.readNum r).1 < 0 ∨ most < (L1.readNum r).1
    · rw [L1.indexNum_out _ _ h1 h2] at hi; cases hi
    · rw [L1.indexNum_in _ _ h1 h2] at hi
      cases hi
      rw [dig, L1.itoa_read r h1]
  · rw [L1.indexNum_bad _ _ h1] at hi
    exact absurd (congrArg Prod.snd hi) h1
theorem RR.count {a : Nat} {L : List Tok} {E : Int} {n : Nat} {l : List Tok} {w : World} (h : RR a L E n l w) (hn : n < 4096) : RR a L E (n + 1) l (w.setCell ⟨a, 3, none⟩ (.int .i64 ((n : Int) + 1))) := by
  obtain ⟨v, h1, h2, h5, h6, h7⟩ := h
  refine ⟨v, ?_, own_setCell h2 (own_ne h2 h1 (by decide)) _, h5, h6, by omega⟩
  rw [heap_setCell_same w a 3 _ 82 _ h1]
  rw [show (n : Int) + 1 = ((n + 1 : Nat) : Int) from by omega]; rfl
theorem BlkVal.kr {B a : Nat} {xs : List Ins} {v : Value} {w w' : World} (h : BlkVal B xs v w) (k : Kr a w w') (ha : a < B) : BlkVal B xs v w' := by
  obtain ⟨cs, h1, h2⟩ := h
  have key : ∀ (e s : Nat) (v : Value) (n : Nat) (xs : List Value), w.ownsRow B e s v n xs → w'.ownsRow B e s v n xs := by
    intro e s v n xs ho
    refine ⟨ho.1, ?_⟩
    rcases ho.2 with hn | ⟨g, cap, cur, hv2, hbb, hg, rest⟩
    · exact .inl hn
    · exact .inr ⟨g, cap, cur, hv2, hbb, (k.2.2.2.2 g (Array.getElem?_eq_some_iff.1 hg).1 (by omega)).trans hg, rest⟩
  exact ⟨cs, key _ _ _ _ _ h1, InsRow.keep (key 3 1) _ _ h2⟩
theorem own_kr {B a e s n : Nat} {v : Value} {xs : List Value} {w w' : World} (ho : w.ownsRow B e s v n xs) (k : Kr a w w') (ha : a < B) : w'.ownsRow B e s v n xs := by
  refine ⟨ho.1, ?_⟩
  rcases ho.2 with hn | ⟨g, cap, cur, hv2, hbb, hg, rest⟩
  · exact .inl hn
  · exact .inr ⟨g, cap, cur, hv2, hbb, (k.2.2.2.2 g (Array.getElem?_eq_some_iff.1 hg).1 (by omega)).trans hg, rest⟩
theorem want_ok {E : Int} {w : List UInt8} (hw : w ≠ []) {l r : List Tok} {u : Unit} (h : G.want E w l = .ok (u, r)) : r = l.tail ∧ peek0 l = w := by
  obtain ⟨_, rfl, hw2⟩ := G.one_ok (G.want_none hw) h
  refine ⟨rfl, ?_⟩
  by_cases hc : peek0 l = w
  · exact hc
  · simp only [if_neg hc] at hw2; cases hw2
theorem head_ok {E : Int} {k : Nat} {l r : List Tok} {u : Unit} (h : G.head prtF E k l = .ok (u, r)) : l ≠ [] ∧ r = l.tail ∧ k < 256 ∧ peek0 l = 98 :: dig k := by
  obtain ⟨hl, rfl, h2⟩ := G.one_ok (by simp) h
  by_cases hc : 256 ≤ k ∨ peek0 l = [] ∨ prtF k (peek0 l) = false
  · simp only [if_pos hc] at h2; cases h2
  · refine ⟨hl, rfl, ?_, ?_⟩
    · exact Nat.lt_of_not_le fun q => hc (.inl q)
    · have hp : prtF k (peek0 l) = true := by
        cases hq : prtF k (peek0 l) with
        | true => rfl
        | false => exact absurd (.inr (.inr hq)) hc
      exact mark_dig (of_decide_eq_true hp)
/-- What the reading of a block answers. -/
def BOut (a : Nat) (L : List Tok) (E : Int) (n : Nat) (xs : List Ins) (l' : List Tok) (w : World) (e : Ending) (w' : World) : Prop :=
  ∃ v, e = .returned v ∧ BlkVal w.heap.size xs v w' ∧ RR a L E n l' w' ∧ Kr a w w'
set_option maxHeartbeats 8000000 in
set_option maxRecDepth 20000 in
theorem rblock {a : Nat} {L : List Tok} {E : Int} {n n' k : Nat} {l lf : List Tok} {xs : List Ins} (w : World) (h : RR a L E n l w) (hr : blockG E k n l = .ok ((xs, n'), lf)) :
    Calls Try.prog 61 #[.pointer (some ⟨a, 0, none⟩), .int .i64 (k : Int)] w (BOut a L E n' xs lf w) := by
  obtain ⟨i0, hi0, hz0, hz1, hz2⟩ := info_parts Try.info60
  obtain ⟨u1, r1, hh, h2⟩ := then_inv hr
  obtain ⟨u2, r2, hw, h2⟩ := then_inv h2
  obtain ⟨hl, rfl, hk, hp⟩ := head_ok hh
  obtain ⟨rfl, hp2⟩ := want_ok (by simp) hw
  have HR : Hid (insG E (l.tail.tail.length + 1) n [] l.tail.tail = .ok ((xs, n'), lf)) := hide h2
  have hk1 : ¬ (256 : Int) ≤ (k : Int) := by omega
  have hk2 : decide ((256 : Int) ≤ (k : Int)) = false := by simpa using hk1
  have hsz : (bs (dig (k : Int))).size ≤ 65536 := by have := h.short.1; rw [hp] at this; rw [bs_size]; simp at this; omega
  have hne : ((bs [98] ++ bs (dig (k : Int))).toList == (bs [98] ++ bs (dig (k : Int))).toList) = true := by simp
  have hsz0 : (bs [98]).size ≤ 100 := by rw [bs_size]; decide
  have HP : Hid (bs (peek0 l) = bs [98] ++ bs (dig (k : Int))) := hide (by rw [hp, cat_bs]; rfl)
  have HP2 := hide hp2
  have ha := h.lt
  have H := hide h
  clear h hr h2 hw hh hp hp2
  have hbb : (⟨#[98]⟩ : ByteArray) = bs [98] := rfl
  go_enter Try.func61, Try.ntmps61
  go_wp2_with fail
  refine (rpeek0 _ H.out rfl).mono ?_; rintro e w1 ⟨rfl, b1⟩
  rw [HP.out]
  go_wp2_with fail
  refine (rprint' (k : Int) _ (by omega) (by omega)).mono ?_; rintro e w2 ⟨rfl, b2⟩
  have B2 := below_step b1 b2
  obtain ⟨c1, z1, c4, hq⟩ := (H.out.below B2).at1
  have HA := hide (ate_of H.out B2 hl)
  clear b1 b2 B2 c4
  generalize L.length - l.length = q at *
  go_upto_region 6 with fail
  show Code.wp _ _ _ _ (w2.setCell ⟨a, 1, none⟩ (.int .i64 ((q : Int) + 1)))
  clear c1 z1 hne
  generalize w2.setCell ⟨a, 1, none⟩ (.int .i64 ((q : Int) + 1)) = W2 at *
  go_wp2_with fail
  refine (rwant [58] _ HA.out.1 HP2.out (by simp)).mono ?_; rintro e w3 ⟨rfl, a3⟩
  have R3 := hide a3.1
  have K3 := hide (HA.out.2.trans a3.2)
  clear HA a3
  go_wp2_with fail
  go_loopw [5] (fun v wr => ∃ (f m : Nat) (acc : List Ins) (l' : List Tok), BlkVal w.heap.size acc v wr ∧ RR a L E m l' wr ∧ Kr a w wr ∧ l'.length < f ∧ acc.length + l'.length ≤ L.length ∧ Hid (insG E f m acc l' = .ok ((xs, n'), lf))) (fun _ wr => L.length - readAt a wr)
  case atStart => exact ⟨_, n, [], l.tail.tail, ⟨[], World.ownsRow_nil _ _ _ _, rfl⟩, R3.out, K3.out, Nat.lt_succ_self _, by rw [List.length_nil, Nat.zero_add]; exact R3.out.len.1, HR⟩
  case round =>
    obtain ⟨f, m, acc, l', hV, H5, K5, hlf, hfit, HM⟩ := hrel
    have hra := H5.readAt
    have hll := H5.len
    have hs := K5.size
    have c4 := H5.at1.2.2.1
    obtain ⟨ao6, cap6, rfl⟩ := own_len hV.choose_spec.1
    have hV := hide hV
    have H5 := hide H5
    have K5 := hide K5
    obtain ⟨f, rfl⟩ : ∃ q, f = q + 1 := ⟨f - 1, by omega⟩
    have HN1 := hide (is_text (peek0 l') [125])
    have HN2 := hide (is_text (peek1 l') [58])
    go_wp2_with fail
    refine (rpeek0 _ H5.out rfl).mono ?_; rintro e w5 ⟨rfl, b5⟩
    by_cases hc1 : peek0 l' = [125]
    · obtain ⟨⟨rfl, rfl⟩, rfl⟩ : (acc = xs ∧ m = n') ∧ l' = lf := by have := HM.out; rw [ins_stop (.inl hc1)] at this; cases this; exact ⟨⟨rfl, rfl⟩, rfl⟩
      have hne : ((bs (peek0 l')).toList == [125]) = true := HN1.out.trans (decide_eq_true hc1)
      have hne2 : ((bs (peek0 l')).toList != [125]) = false := by rw [bne, hne]; rfl
      clear hc1 HN1 HN2
      go_wp2_with fail
      go_ret
      exact ⟨_, rfl, hV.out.below b5, H5.out.below b5, K5.out.step b5⟩
    have hne : ((bs (peek0 l')).toList == [125]) = false := HN1.out.trans (decide_eq_false hc1)
    have hne2 : ((bs (peek0 l')).toList != [125]) = true := by rw [bne, hne]; rfl
    replace hc1 := hide hc1
    go_wp2_with fail
    refine (rpeek1 _ (H5.out.below b5) rfl).mono ?_; rintro e w6 ⟨rfl, b6⟩
    have B6 := hide (below_step b5 b6)
    clear b5 b6
    by_cases hc2 : peek1 l' = [58]
    · obtain ⟨⟨rfl, rfl⟩, rfl⟩ : (acc = xs ∧ m = n') ∧ l' = lf := by have := HM.out; rw [ins_stop (.inr hc2)] at this; cases this; exact ⟨⟨rfl, rfl⟩, rfl⟩
      have hnf : ((bs (peek1 l')).toList == [58]) = true := HN2.out.trans (decide_eq_true hc2)
      have hnf2 : ((bs (peek1 l')).toList != [58]) = false := by rw [bne, hnf]; rfl
      clear hc2 HN1 HN2
      go_wp2_with fail
      go_ret
      exact ⟨_, rfl, hV.out.below B6.out, H5.out.below B6.out, K5.out.step B6.out⟩
    have hnf : ((bs (peek1 l')).toList == [58]) = false := HN2.out.trans (decide_eq_false hc2)
    have hnf2 : ((bs (peek1 l')).toList != [58]) = true := by rw [bne, hnf]; rfl
    have hcc : ¬ (peek0 l' = [125] ∨ peek1 l' = [58]) := fun h => h.elim hc1.out hc2
    have hm4 : m < 4096 := by
      refine Classical.byContradiction fun q => ?_
      have := HM.out
      rw [ins_many hcc (by omega)] at this
      cases this
    obtain ⟨x, l10, hx⟩ : ∃ x l10, instrG E l' = .ok (x, l10) := by
      cases hq : instrP E l' with
      | error er => have := HM.out; rw [ins_bad hcc hm4 hq] at this; cases this
      | ok p => exact ⟨p.1, p.2, (instr_eq E l').trans hq⟩
    have hx' : instrP E l' = .ok (x, l10) := (instr_eq E l').symm.trans hx
    have HE : Hid (insG E f (m + 1) (acc ++ [x]) l10 = .ok ((xs, n'), lf)) := hide (by have := HM.out; rwa [ins_go hcc hm4 hx'] at this)
    have hless := instr_less hx'
    have HX := hide hx
    clear hc1 hc2 HN1 HN2 hcc hx hx' HM
    have V6 := hide (hV.out.below B6.out)
    have H6 := hide (H5.out.below B6.out)
    have K6 := hide (K5.out.step B6.out)
    have hs6 := K6.out.size
    clear hV H5 K5 B6 hs c4
    obtain ⟨_, _, _, _, _, c3, _, _, fz, _⟩ := H6.out.cells
    have f3 := fz 3
    clear fz
    have hm4' : ¬ (4096 : Int) ≤ (m : Int) := by omega
    have hm5 : decide ((4096 : Int) ≤ (m : Int)) = false := by simpa using hm4'
    have H7 := hide (H6.out.count hm4)
    have K7 := hide (K6.out.set (i := 3) (.int .i64 ((m : Int) + 1)))
    have V7 := hide (V6.out.kr (RR.kr (a := a) (w := w6) 3 (.int .i64 ((m : Int) + 1))) ha)
    go_upto_region 12 with fail
    show Code.wp _ _ _ _ (w6.setCell ⟨a, 3, none⟩ (.int .i64 ((m : Int) + 1)))
    clear c3 f3 H6 K6 V6 hne hne2 hnf hnf2
    generalize w6.setCell ⟨a, 3, none⟩ (.int .i64 ((m : Int) + 1)) = W7 at *
    have hs7 := K7.out.size
    go_wp2_with fail
    refine (rinstr _ H7.out HX.out).mono ?_; rintro e w10 ⟨v, rfl, ⟨va, vt, rfl, o1, o2⟩, r10, k10⟩
    obtain ⟨aoA, mA, cA, rfl⟩ := own_slice o1
    obtain ⟨aoT, mT, cT, rfl⟩ := own_slice o2
    have b11 := below_box w10 (.cells (insCells x (.slice aoA mA cA) (.slice aoT mT cT)).toArray 60)
    have V11 := (V7.out.kr k10 ha).below b11
    obtain ⟨cs, oR, hR⟩ := V11
    have K11 := hide ((K7.out.trans k10).step b11)
    have R11 := hide (r10.below b11)
    have o1 := hide ((own_base o1 hs7).alloc (.cells (insCells x (.slice aoA mA cA) (.slice aoT mT cT)).toArray 60))
    have o2 := hide ((own_base o2 hs7).alloc (.cells (insCells x (.slice aoA mA cA) (.slice aoT mT cT)).toArray 60))
    have y : ∀ i u, (insCells x (.slice aoA mA cA) (.slice aoT mT cT))[i]? = some u → (w10.alloc (.cells (insCells x (.slice aoA mA cA) (.slice aoT mT cT)).toArray 60)).cell? ⟨w10.heap.size, i, none⟩ = some u := fun i u hu => by
      have := eight_cell (w := w10) (x := x) (va := .slice aoA mA cA) (vt := .slice aoT mT cT) i u hu
      rw [Addr.add_lit, Nat.zero_add] at this
      exact this
    have y0 := y 0 _ rfl
    have y1 := y 1 _ rfl
    have y2 := y 2 _ rfl
    have y3 := y 3 _ rfl
    have y4 := y 4 _ rfl
    have y5 := y 5 _ rfl
    have y6 := y 6 _ rfl
    have y7 := y 7 _ rfl
    have oR := hide oR
    have hR := hide hR
    clear y V7 H7 K7 k10 r10 b11
    unfold insCells
    go_upto_region 13 with fail
    show Code.wp _ _ _ _ (w10.alloc (.cells (insCells x (.slice aoA mA cA) (.slice aoT mT cT)).toArray 60))
    generalize w10.alloc (.cells (insCells x (.slice aoA mA cA) (.slice aoT mT cT)).toArray 60) = W10 at *
    have hs10 := K11.out.size
    have t2 : acc.length + 1 ≤ maxLen := by unfold maxLen; omega
    have t3 : (acc.length + 1) * 104 ≤ 140737488355328 := by omega
    go_wp2_with (at_builtin; refine wpList_append_own _ rfl (.tmp 62) (.tmp 64) 61 rfl w.heap.size 60 i0 _ 8 104 Try.underlying61 hi0 hz0 hz1 hz2 rfl (by decide) _ _ _ rfl (oR.out.alloc _) ⟨W10.heap.size, 0, none⟩ 1 1 (insCells x (.slice aoA mA cA) (.slice aoT mT cT)) rfl rfl eight_cell eight_one t2 t3 (by simp; omega) ?_; intro v11 w11 own11 grow11 _)
    have V11 := hide (BlkVal.snoc oR.out hR.out o1.out o2.out own11 grow11)
    have K12 := hide ((K11.out.step (below_box W10 _)).grown grow11 (fun q hq => (oR.out.lt q hq).1))
    have R12 := hide ((R11.out.below (below_box W10 _)).grown grow11 (oR.out.alloc _) (by decide) ha)
    have hra2 := R12.out.readAt
    have hll2 := R12.out.len
    clear own11 grow11
    go_wp2_with fail
    go_roundw
    case rel => exact ⟨f, m + 1, acc ++ [x], l10, V11.out, R12.out, K12.out, by omega, by simp; omega, HE⟩
    case measure => rw [hra, hra2]; omega
end Go.Proofs.Ytnlcpfijfjbgjaa
namespace Go.Proofs.Ytnlcpfijfjbgjaa
open Go Go.RowKit
open G (Tok Er Ins Fun peek0 peek1 atOf)
theorem rkind (s : List UInt8) (w : World) : Calls Try.prog 60 #[.string (bs s)] w fun e w' => e = .returned (.int .i64 (G.kind s)) ∧ Below w.heap.size w w' := by
  have H1 := is_text s [110]
  have H2 := is_text s [105]
  have H3 := is_text s [112]
  by_cases h1 : s = [110]
  · have HK : Hid (G.kind s = 0) := hide (by rw [h1]; rfl)
    rw [decide_eq_true h1] at H1
    clear h1 H2 H3
    go_enter Try.func60, Try.ntmps60
    go_wp2_with fail
    go_ret
    exact ⟨by rw [HK.out]; rfl, Below.refl _ _⟩
  · rw [decide_eq_false h1] at H1
    by_cases h2 : s = [105]
    · have HK : Hid (G.kind s = 1) := hide (by rw [h2]; rfl)
      rw [decide_eq_true h2] at H2
      clear h1 h2 H3
      go_enter Try.func60, Try.ntmps60
      go_wp2_with fail
      go_ret
      exact ⟨by rw [HK.out]; rfl, Below.refl _ _⟩
    · rw [decide_eq_false h2] at H2
      by_cases h3 : s = [112]
      · have HK : Hid (G.kind s = 2) := hide (by rw [h3]; rfl)
        rw [decide_eq_true h3] at H3
        clear h1 h2 h3
        go_enter Try.func60, Try.ntmps60
        go_wp2_with fail
        go_ret
        exact ⟨by rw [HK.out]; rfl, Below.refl _ _⟩
      · have HK : Hid (G.kind s = -1) := hide (by unfold G.kind; rw [if_neg h1, if_neg h2, if_neg h3])
        rw [decide_eq_false h3] at H3
        clear h1 h2 h3
        go_enter Try.func60, Try.ntmps60
        go_wp2_with fail
        go_ret
        exact ⟨by rw [HK.out]; rfl, Below.refl _ _⟩
theorem stay_kr {B a : Nat} {w w' : World} (k : Kr a w w') (ha : a < B) : Stay B B w w' := fun _ _ _ _ _ _ h => own_kr h k ha
/-- The function stands at c, the place of the answer at g. -/
def MidG (w : World) (a c g : Nat) (L : List Tok) (E : Int) (n : Nat) (x : Fun) (l : List Tok) (wk : World) : Prop :=
  RR a L E n l wk ∧ FunAt w.heap.size c x wk ∧ wk.heap[g]? = some (.cells #[.string ⟨#[]⟩, .slice none 0 0, .int .i64 0, .slice none 0 0, .int .i64 0] 25 (0, 0)) ∧ Kr a w wk ∧ a < w.heap.size ∧ w.heap.size ≤ g ∧ g ≠ c
section
variable {w : World} {a c g : Nat} {L : List Tok} {E : Int} {n n' : Nat} {x y : Fun} {l l' : List Tok} {wk wk' : World}
theorem MidG.lt (h : MidG w a c g L E n x l wk) : a < w.heap.size ∧ w.heap.size ≤ g ∧ w.heap.size ≤ c ∧ c < wk.heap.size ∧ g < wk.heap.size ∧ g ≠ c ∧ w.heap.size ≤ wk.heap.size := by
  obtain ⟨h1, h2, h3, h4, h5, h6, h7⟩ := h
  exact ⟨h5, h6, h2.lt.2, h2.lt.1, (Array.getElem?_eq_some_iff.1 h3).1, h7, h4.size⟩
theorem MidG.kr (h : MidG w a c g L E n x l wk) (r : RR a L E n' l' wk') (k : Kr a wk wk') : MidG w a c g L E n' x l' wk' := by
  have hl := h.lt
  obtain ⟨h1, h2, h3, h4, h5, h6, h7⟩ := h
  exact ⟨r, h2.stay (stay_kr k h5) (k.2.2.2.2 c (by omega) (by omega)), (k.2.2.2.2 g (by omega) (by omega)).trans h3, h4.trans k, h5, h6, h7⟩
theorem MidG.below (h : MidG w a c g L E n x l wk) (b : Below wk.heap.size wk wk') : MidG w a c g L E n x l wk' := h.kr (h.1.below b) (Kr.of_below b)
theorem MidG.ate (h : MidG w a c g L E n x l wk) (b : Ate a L E n l' wk wk') : MidG w a c g L E n x l' wk' := h.kr b.1 b.2
theorem MidG.put {i : Nat} {v : Value} (h : MidG w a c g L E n x l wk) (hy : FunAt w.heap.size c y (wk.setCell ⟨c, i, none⟩ v)) : MidG w a c g L E n y l (wk.setCell ⟨c, i, none⟩ v) := by
  have hl := h.lt
  obtain ⟨h1, h2, h3, h4, h5, h6, h7⟩ := h
  obtain ⟨cs, hc⟩ : ∃ cs, wk.heap[c]? = some (.cells cs 25 (0, 0)) := by obtain ⟨va, vt, k1, _⟩ := h2; exact ⟨_, k1⟩
  refine ⟨h1.set hc (by decide) (by omega) i v, hy, (Below.heap_setCell _ _ _ _ (fun e => h7 e)).trans h3, ?_, h5, h6, h7⟩
  have hb := (Below.refl 0 wk).setCell (p := ⟨c, i, none⟩) (Nat.zero_le c) v
  exact ⟨hb.os.trans h4.1, hb.tape.trans h4.2.1, hb.output.trans h4.2.2.1, Nat.le_trans h4.size hb.size, fun k k1 k2 => (Below.heap_setCell wk ⟨c, i, none⟩ v k (by show k ≠ c; omega)).trans (h4.2.2.2.2 k k1 k2)⟩
/-- A list has grown, and its new value is put into the function. -/
theorem MidG.grow {w3 : World} {row : Value} {e' s' m i : Nat} {ys : List Value} {v : Value} (h : MidG w a c g L E n x l wk) (hg : wk.grownBy w3 row.ownBlock) (hr : wk.ownsRow w.heap.size e' s' row m ys) (he : 92 ≠ e' ∧ 25 ≠ e') (hy : FunAt w.heap.size c y (w3.setCell ⟨c, i, none⟩ v)) : MidG w a c g L E n y l (w3.setCell ⟨c, i, none⟩ v) := by
  have hl := h.lt
  obtain ⟨h1, h2, h3, h4, h5, h6, h7⟩ := h
  obtain ⟨cs, hc⟩ : ∃ cs, wk.heap[c]? = some (.cells cs 25 (0, 0)) := by obtain ⟨va, vt, k1, _⟩ := h2; exact ⟨_, k1⟩
  have r1 := h1.grown hg hr he.1 h5
  have r2 := (hg.block g (by omega) (fun e => own_ne hr h3 he.2 e.symm)).trans h3
  have hc3 := (hg.block c (by omega) (fun e => own_ne hr hc he.2 e.symm)).trans hc
  have r3 := h4.grown hg fun q hq => (hr.lt q hq).1
  refine ⟨r1.set hc3 (by decide) (by omega) i v, hy, (Below.heap_setCell _ _ _ _ (fun e => h7 e)).trans r2, ?_, h5, h6, h7⟩
  have hb := (Below.refl 0 w3).setCell (p := ⟨c, i, none⟩) (Nat.zero_le c) v
  exact ⟨hb.os.trans r3.1, hb.tape.trans r3.2.1, hb.output.trans r3.2.2.1, Nat.le_trans r3.size hb.size, fun k k1 k2 => (Below.heap_setCell w3 ⟨c, i, none⟩ v k (by show k ≠ c; omega)).trans (r3.2.2.2.2 k k1 k2)⟩
end
theorem fun_param {B c gg cap : Nat} {s : List UInt8} {p : List Int} {ret at' t : Int} {vp vb : Value} {u w3 : World} (hc : u.heap[c]? = some (.cells (funCells (s, p, ret, [], at') vp vb).toArray 25 (0, 0))) (hp : u.ownsRow B 3 1 vp p.length (ints p)) (oB : BlksVal B [] vb u) (hBc : B ≤ c)
    (hown : w3.ownsRow B 3 1 (.slice (some ⟨gg, 0, none⟩) (p.length + 1) cap) (p.length + 1) (ints p ++ [.int .i64 t])) (hg : u.grownBy w3 vp.ownBlock) : FunAt B c (s, p ++ [t], ret, [], at') (w3.setCell ⟨c, 1, none⟩ (.slice (some ⟨gg, 0, none⟩) (p.length + 1) cap)) := by
  have hc3 : w3.heap[c]? = some (.cells (funCells (s, p, ret, [], at') vp vb).toArray 25 (0, 0)) := (hg.block c (Array.getElem?_eq_some_iff.1 hc).1 (fun e => own_ne hp hc (by decide) e.symm)).trans hc
  have s2 : Stay B B w3 (w3.setCell ⟨c, 1, none⟩ (.slice (some ⟨gg, 0, none⟩) (p.length + 1) cap)) := far_kind ((Far.refl c w3).set 1 _) hc3 (by decide)
  obtain ⟨vs, o1, o2⟩ := oB
  refine ⟨_, vb, (heap_setCell_same w3 c 1 _ 25 _ hc3).trans rfl, ?_, BlksVal.stay ⟨vs, own_other hg hp (by decide) _ _ _ o1, o2⟩ s2, hBc⟩
  have := s2 _ _ _ _ _ (by simp) hown
  simpa using this
theorem MidG.start {w : World} {a : Nat} {L : List Tok} {E : Int} {n : Nat} {l : List Tok} (h : RR a L E n l w) (p : Int) {W0 W1 : World} (hW0 : W0 = w.alloc (.cells #[.string ⟨#[]⟩, .slice none 0 0, .int .i64 0, .slice none 0 0, .int .i64 0] 25)) (hW1 : Below W0.heap.size W0 W1) :
    MidG w a W1.heap.size w.heap.size L E n ([], [], 0, [], p) l (W1.alloc (.cells #[.string ⟨#[]⟩, .slice none 0 0, .int .i64 0, .slice none 0 0, .int .i64 p] 25)) := by
  subst hW0
  have b1 := below_box w (.cells #[.string ⟨#[]⟩, .slice none 0 0, .int .i64 0, .slice none 0 0, .int .i64 0] 25)
  have b3 := below_box W1 (.cells #[.string ⟨#[]⟩, .slice none 0 0, .int .i64 0, .slice none 0 0, .int .i64 p] 25)
  have s1 : (w.alloc (.cells #[.string ⟨#[]⟩, .slice none 0 0, .int .i64 0, .slice none 0 0, .int .i64 0] 25)).heap.size = w.heap.size + 1 := by simp
  have hz := hW1.size
  refine ⟨((h.below b1).below hW1).below b3, FunAt.new (by omega) p, ?_, Kr.of_below (below_step (below_step b1 hW1) b3), h.lt, Nat.le_refl _, by omega⟩
  exact (b3.block w.heap.size (by omega)).trans ((hW1.block w.heap.size (by omega)).trans (heap_alloc_new w _))
end Go.Proofs.Ytnlcpfijfjbgjaa
namespace Go.Proofs.Ytnlcpfijfjbgjaa
open Go Go.RowKit
open G (Tok Er Ins Fun peek0 peek1 atOf)
theorem funG_inv {E : Int} {n n' : Nat} {l lf : List Tok} {y : Fun} (h : funG E n l = .ok ((y, n'), lf)) :
    ∃ s p t b r3 r4 r5 r7, peek0 l = [102, 117, 110, 99] ∧ G.name namF E l.tail = .ok (s, r3) ∧ peek0 r3 = [40] ∧ G.parW E (r3.tail.length + 1) [] r3.tail = .ok (p, r4) ∧ peek0 r4 = [41] ∧ r5 = r4.tail ∧ G.kind (peek0 r5) = t ∧ ¬ t < 0 ∧ r5 ≠ [] ∧ peek0 r5.tail = [123] ∧
      blkG E (r5.tail.tail.length + 1) n [] r5.tail.tail = .ok ((b, n'), r7) ∧ peek0 r7 = [125] ∧ lf = r7.tail ∧ y = (s, p, t, b, atOf E l) := by
  obtain ⟨_, r, h1, h⟩ := then_inv h
  obtain ⟨rfl, e1⟩ := want_ok (by simp) h1
  obtain ⟨s, r3, h3, h⟩ := then_inv h
  obtain ⟨_, r, h4, h⟩ := then_inv h
  obtain ⟨rfl, e4⟩ := want_ok (by simp) h4
  obtain ⟨p, r4, h5, h⟩ := then_inv h
  obtain ⟨_, r, h6, h⟩ := then_inv h
  obtain ⟨rfl, e6⟩ := want_ok (by simp) h6
  obtain ⟨t, r6, h7, h⟩ := then_inv h
  obtain ⟨hne, rfl, h7b⟩ := G.one_ok (by simp [G.kind]) h7
  obtain ⟨_, r, h8, h⟩ := then_inv h
  obtain ⟨rfl, e8⟩ := want_ok (by simp) h8
  obtain ⟨⟨b, m⟩, r7, h9, h⟩ := then_inv h
  obtain ⟨_, r, h10, h⟩ := then_inv h
  obtain ⟨rfl, e10⟩ := want_ok (by simp) h10
  cases h
  replace h7b : (if G.kind (peek0 r4.tail) < 0 then none else some (G.kind (peek0 r4.tail))) = some t := h7b
  by_cases hk : G.kind (peek0 r4.tail) < 0
  · rw [if_pos hk] at h7b; cases h7b
  · rw [if_neg hk] at h7b
    injection h7b with h7
    exact ⟨s, p, t, b, r3, r4, _, r7, e1, h3, e4, h5, e6, rfl, h7, by rw [← h7]; exact hk, hne, e8, h9, e10, rfl, rfl⟩
set_option maxHeartbeats 8000000 in
set_option maxRecDepth 20000 in
theorem rfunction {a : Nat} {L : List Tok} {E : Int} {n n' : Nat} {l lf : List Tok} {y : Fun} (w : World) (h : RR a L E n l w) (hr : funG E n l = .ok ((y, n'), lf)) :
    Calls Try.prog 48 #[.pointer (some ⟨a, 0, none⟩)] w fun e w' => ∃ v, e = .returned v ∧ FunVal w.heap.size y v w' ∧ RR a L E n' lf w' ∧ Kr a w w' := by
  obtain ⟨s, p, t, bl, r3, r4, r5, r7, e1, h3, e4, h5, e6, h56, ht, ht0, hne5, e8, h9, e10, rfl, rfl⟩ := funG_inv hr
  have hl : l ≠ [] := fun e => by rw [e] at e1; cases e1
  have hn3 := name_ok h3
  have HE1 := hide e1
  replace h56 := hide h56
  have HN3 := hide hn3.2
  have HE4 := hide e4
  have HP := hide h5
  have HE6 := hide e6
  have HT := hide ht
  have HE8 := hide e8
  have HB := hide h9
  have HE10 := hide e10
  obtain rfl : r3 = l.tail.tail := hn3.1
  obtain ⟨i0, hi0, hz0, hz1, hz2⟩ := info_parts Try.info3
  obtain ⟨j0, hj0, hy0, hy1, hy2⟩ := info_parts Try.info61
  have hb0 := below_box w (.cells #[.string ⟨#[]⟩, .slice none 0 0, .int .i64 0, .slice none 0 0, .int .i64 0] 25)
  obtain ⟨gg, cap, q, c0, c1, ch, hq, hLL⟩ := (h.below hb0).here hl
  have haW := World.block_lt_of_cell? _ _ c0
  have hgW := World.block_lt_of_cell? _ _ ch
  replace haW : a < (w.alloc (.cells #[.string ⟨#[]⟩, .slice none 0 0, .int .i64 0, .slice none 0 0, .int .i64 0] 25)).heap.size := haW
  replace hgW : gg < (w.alloc (.cells #[.string ⟨#[]⟩, .slice none 0 0, .int .i64 0, .slice none 0 0, .int .i64 0] 25)).heap.size := hgW
  have H := hide h
  have hq1 : (q : Int) < (L.length : Int) := by omega
  clear h hr e1 h3 hn3 e4 h5 e6 ht e8 h9 e10 hb0
  generalize atOf E l = pp at *
  go_enter Try.func48, Try.ntmps48
  go_upto_region 1 with fail
  show Code.wp _ _ _ _ (w.alloc (.cells #[.string ⟨#[]⟩, .slice none 0 0, .int .i64 0, .slice none 0 0, .int .i64 0] 25))
  generalize hW0 : w.alloc (.cells #[.string ⟨#[]⟩, .slice none 0 0, .int .i64 0, .slice none 0 0, .int .i64 0] 25) = W0 at *
  have HW0 := hide hW0.symm
  clear hW0
  go_region
  have M0 := hide ((MidG.start H.out (pp) HW0.out (Below.refl _ _)).below (below_drew _))
  clear H HW0 c0 c1 ch hq1 haW hgW hq
  generalize (W0.alloc (.cells #[.string ⟨#[]⟩, .slice none 0 0, .int .i64 0, .slice none 0 0, .int .i64 (pp)] 25)).drew = W1 at *
  generalize W0.heap.size = c at *
  go_wp2_with fail
  refine (rwant [102, 117, 110, 99] _ M0.out.1 HE1.out (by simp)).mono ?_; rintro e w1 ⟨rfl, a1⟩
  have M1 := hide (M0.out.ate a1)
  clear M0 a1
  go_wp2_with fail
  refine (rname s _ M1.out.1 HN3.out.1 HN3.out.2).mono ?_; rintro e w2 ⟨rfl, a2⟩
  have M2 := hide (M1.out.ate a2)
  clear M1 a2
  obtain ⟨vp, vb, HC, HZ, _, _⟩ := M2.out.2.1.cells
  have x0 := HC 0 _ rfl
  have z0 := HZ 0
  clear HC HZ
  go_upto_region 4 with fail
  show Code.wp _ _ _ _ (w2.setCell ⟨c, 0, none⟩ (.string (bs s)))
  have M3 : Hid (MidG w a c w.heap.size L E n (s, [], 0, [], pp) l.tail.tail (w2.setCell ⟨c, 0, none⟩ (.string (bs s)))) := hide (M2.out.put (M2.out.2.1.name s))
  clear M2 x0 z0
  generalize w2.setCell ⟨c, 0, none⟩ (.string (bs s)) = W2 at *
  go_wp2_with fail
  refine (rwant [40] _ M3.out.1 HE4.out (by simp)).mono ?_; rintro e w3 ⟨rfl, a3⟩
  have M4 := hide (M3.out.ate a3)
  clear M3 a3
  go_wp2_with fail
  go_loopw [] (fun wr => ∃ (f : Nat) (acc : List Int) (l' : List Tok), Hid (MidG w a c w.heap.size L E n (s, acc, 0, [], pp) l' wr) ∧ acc.length ≤ 8 ∧ l'.length < f ∧ Hid (G.parW E f acc l' = .ok (p, r4))) (fun wr => L.length - readAt a wr)
  case atStart => exact ⟨_, [], _, M4, by simp, Nat.lt_succ_self _, HP⟩
  case round =>
    obtain ⟨f, acc, l', M, h8, hf, HR⟩ := hrel
    have hra := M.out.1.readAt
    have hll := M.out.1.len
    have c4 := M.out.1.at1.2.2.1
    obtain ⟨f, rfl⟩ : ∃ q, f = q + 1 := ⟨f - 1, by omega⟩
    have HN1 := hide (is_text (peek0 l') [41])
    go_wp2_with fail
    refine (rpeek0 _ M.out.1 rfl).mono ?_; rintro e w5 ⟨rfl, b5⟩
    have M5 := hide (M.out.below b5)
    clear M b5 c4
    by_cases hc1 : peek0 l' = [41]
    · obtain ⟨rfl, rfl⟩ : acc = p ∧ l' = r4 := by have := HR.out; unfold G.parW at this; rw [if_pos hc1] at this; cases this; exact ⟨rfl, rfl⟩
      have hne : ((bs (peek0 l')).toList == [41]) = true := HN1.out.trans (decide_eq_true hc1)
      have hne2 : ((bs (peek0 l')).toList != [41]) = false := by rw [bne, hne]; rfl
      clear hc1 HN1 HR
      go_wp2_with fail
      refine (rwant [41] _ M5.out.1 HE6.out (by simp)).mono ?_; rintro e w6 ⟨rfl, a6⟩
      have M6 := hide (M5.out.ate a6)
      rw [← h56.out] at M6
      clear M5 a6 hne hne2
      go_wp2_with fail
      refine (rpeek0 _ M6.out.1 rfl).mono ?_; rintro e w7 ⟨rfl, b7⟩
      go_wp2_with fail
      refine (rkind (peek0 r5) _).mono ?_; rintro e w8 ⟨rfl, b8⟩
      rw [HT.out]
      have M8 := hide ((M6.out.below b7).below b8)
      clear M6 b7 b8
      obtain ⟨vp, vb, HC, HZ, _, _⟩ := M8.out.2.1.cells
      have x2 := HC 2 _ rfl
      have z2 := HZ 2
      clear HC HZ
      go_upto_region 15 with fail
      show Code.wp _ _ _ _ (w8.setCell ⟨c, 2, none⟩ (.int .i64 t))
      have M9 : Hid (MidG w a c w.heap.size L E n (s, acc, t, [], pp) r5 (w8.setCell ⟨c, 2, none⟩ (.int .i64 t))) := hide (M8.out.put (M8.out.2.1.ret t))
      clear M8 x2 z2
      generalize w8.setCell ⟨c, 2, none⟩ (.int .i64 t) = W9 at *
      obtain ⟨vp, vb, HC, HZ, _, _⟩ := M9.out.2.1.cells
      have x2 : W9.cell? ⟨c, 2, none⟩ = some (.int .i64 t) := HC 2 _ rfl
      clear HC HZ
      have ht1 : decide (t < 0) = false := by simpa using ht0
      obtain ⟨c1, z1, c4, hq9⟩ := M9.out.1.at1
      have M10 := hide (M9.out.ate (ate_of M9.out.1 (Below.refl _ _) hne5))
      clear c4 M9
      generalize L.length - r5.length = q9 at *
      go_upto_region 18 with fail
      show Code.wp _ _ _ _ (W9.setCell ⟨a, 1, none⟩ (.int .i64 ((q9 : Int) + 1)))
      clear c1 z1 x2
      generalize W9.setCell ⟨a, 1, none⟩ (.int .i64 ((q9 : Int) + 1)) = W10 at *
      go_wp2_with fail
      refine (rwant [123] _ M10.out.1 HE8.out (by simp)).mono ?_; rintro e w11 ⟨rfl, a11⟩
      have M11 := hide (M10.out.ate a11)
      clear M10 a11
      go_wp2_with fail
      go_loopw [] (fun wr => ∃ (f m : Nat) (bb : List (List Ins)) (l2 : List Tok), Hid (MidG w a c w.heap.size L E m (s, acc, t, bb, pp) l2 wr) ∧ l2.length < f ∧ bb.length + l2.length ≤ L.length ∧ Hid (blkG E f m bb l2 = .ok ((bl, n'), r7))) (fun wr => L.length - readAt a wr)
      case atStart => exact ⟨_, n, [], _, M11, Nat.lt_succ_self _, by rw [List.length_nil, Nat.zero_add]; exact M11.out.1.len.1, HB⟩
      case round =>
        obtain ⟨f2, m, bb, l2, M12, hf2, hfit, HR2⟩ := hrel
        have hra2 := M12.out.1.readAt
        have hll2 := M12.out.1.len
        have c42 := M12.out.1.at1.2.2.1
        obtain ⟨f2, rfl⟩ : ∃ q, f2 = q + 1 := ⟨f2 - 1, by omega⟩
        have HN2 := hide (is_text (peek0 l2) [125])
        go_wp2_with fail
        refine (rpeek0 _ M12.out.1 rfl).mono ?_; rintro e w13 ⟨rfl, b13⟩
        have M13 := hide (M12.out.below b13)
        clear M12 b13 c42
        by_cases hc2 : peek0 l2 = [125]
        · obtain ⟨⟨rfl, rfl⟩, rfl⟩ : (bb = bl ∧ m = n') ∧ l2 = r7 := by have := HR2.out; rw [blk_stop hc2] at this; cases this; exact ⟨⟨rfl, rfl⟩, rfl⟩
          have hnf : ((bs (peek0 l2)).toList == [125]) = true := HN2.out.trans (decide_eq_true hc2)
          have hnf2 : ((bs (peek0 l2)).toList != [125]) = false := by rw [bne, hnf]; rfl
          clear hc2 HN2 HR2
          go_wp2_with fail
          refine (rwant [125] _ M13.out.1 HE10.out (by simp)).mono ?_; rintro e w14 ⟨rfl, a14⟩
          have M14 := hide (M13.out.ate a14)
          clear M13 a14 hnf hnf2
          obtain ⟨vp, vb, HC, HZ, o1, o2⟩ := M14.out.2.1.cells
          have y0 := HC 0 _ rfl
          have y1 := HC 1 _ rfl
          have y2 := HC 2 _ rfl
          have y3 := HC 3 _ rfl
          have y4 := HC 4 _ rfl
          obtain ⟨aoA, mA, cA, rfl⟩ := own_slice o1
          obtain ⟨aoT, mT, cT, rfl⟩ := own_slice o2.choose_spec.1
          have hS := hide M14.out.2.2.1
          obtain ⟨s0, s1, s2, s3, s4, f0, f1, f2, f3, f4⟩ := res5 hS.out
          have hlt := M14.out.lt
          have hcn : c ≠ w.heap.size := fun e => M14.out.2.2.2.2.2.2 e.symm
          have FF := hide ((((((Far.refl w.heap.size w14).set 0 (.string (bs s))).set 1 (.slice aoA mA cA)).set 2 (.int .i64 t)).set 3 (.slice aoT mT cT)).set 4 (.int .i64 pp))
          have KK := hide (FF.out.kr M14.out.2.2.2.1 (Nat.le_refl _))
          have QQ := hide (FF.out.rr M14.out.1 hS.out (by decide) (by omega))
          have SS := far_kind (B := w.heap.size) FF.out hS.out (by decide)
          have OO := hide (SS _ _ _ _ _ (by simp) o1)
          have OB := hide (o2.stay SS)
          clear HC HZ o1 o2 SS
          go_wp2_with fail
          exact bodyPost_ret (v := .agg (funCells (s, acc, t, bb, pp) (.slice aoA mA cA) (.slice aoT mT cT)).toArray) (by simp [results, Try.results48, go_sem, funCells, s0, s1, s2, s3, s4]) rfl ⟨_, rfl, ⟨_, _, rfl, OO.out, OB.out⟩, QQ.out, KK.out⟩
        · have hnf : ((bs (peek0 l2)).toList == [125]) = false := HN2.out.trans (decide_eq_false hc2)
          have hnf2 : ((bs (peek0 l2)).toList != [125]) = true := by rw [bne, hnf]; rfl
          obtain ⟨⟨b, m2⟩, l3, hblk, hr3⟩ := then_inv (show G.andThen (blockG E bb.length m l2) (fun x => blkG E f2 x.2 (bb ++ [x.1])) = .ok ((bl, n'), r7) from by have := HR2.out; unfold blkG G.blkW at this; rwa [if_neg hc2] at this)
          have hless := block_less hblk
          have HBK := hide hblk
          have HR3 := hide hr3
          clear hc2 HN2 HR2 hblk hr3
          obtain ⟨vp, vb, hc6, hp6, ⟨vs, oB6, hR6⟩, hBc⟩ := M13.out.2.1
          obtain ⟨aoB, cB, rfl⟩ := own_len oB6
          have x3 : w13.cell? ⟨c, 3, none⟩ = some (.slice aoB bb.length cB) := by simp [World.cell?, hc6, funCells]
          clear hc6 hp6 oB6 hR6
          go_wp2_with fail
          refine (rblock _ M13.out.1 HBK.out).mono ?_; rintro e w15 ⟨v15, rfl, hV15, r15, k15⟩
          have hs13 := M13.out.lt
          have M15 := hide (M13.out.kr r15 k15)
          have V15 := hide (hV15.base hs13.2.2.2.2.2.2)
          obtain ⟨ao15, cp15, rfl⟩ := own_len hV15.choose_spec.1
          clear M13 r15 k15 hV15 x3 hnf hnf2
          have hs15 := M15.out.lt
          obtain ⟨vp, vb, hc6, hp6, ⟨vs, oB6, hR6⟩, hBc⟩ := M15.out.2.1
          obtain ⟨aoB, cB, rfl⟩ := own_len oB6
          have x3 : w15.cell? ⟨c, 3, none⟩ = some (.slice aoB bb.length cB) := by simp [World.cell?, hc6, funCells]
          have z3 : w15.frozen? ⟨c, 3, none⟩ = false := by simp [World.frozen?, hc6]
          have hne3 : (Value.slice aoB bb.length cB).ownBlock ≠ some c := own_ne oB6 hc6 (by decide)
          obtain ⟨x3a, z3a⟩ := Cel.below (below_box w15 (.cells #[.slice ao15 b.length cp15] 61)) hs15.2.2.2.1 x3 z3
          have M16 := hide (M15.out.below (below_box w15 (.cells #[.slice ao15 b.length cp15] 61)))
          have hc7 := hide ((heap_alloc_old w15 (.cells #[.slice ao15 b.length cp15] 61) (Array.getElem?_eq_some_iff.1 hc6).1).trans hc6)
          have hp7 := hide (hp6.alloc (.cells #[.slice ao15 b.length cp15] 61))
          have oB7 := hide (oB6.alloc (.cells #[.slice ao15 b.length cp15] 61))
          have hR7 := hide (BRow.keep (fun _ _ h => h.below (below_box w15 (.cells #[.slice ao15 b.length cp15] 61))) _ _ hR6)
          have V16 := hide (V15.out.below (below_box w15 (.cells #[.slice ao15 b.length cp15] 61)))
          clear hc6 hp6 oB6 hR6
          have t2 : bb.length + 1 ≤ maxLen := by unfold maxLen; omega
          have t3 : (bb.length + 1) * 24 ≤ 140737488355328 := by omega
          have t4 : w.heap.size ≤ (w15.alloc (.cells #[.slice ao15 b.length cp15] 61)).heap.size := by simp; omega
          have t5 : c < (w15.alloc (.cells #[.slice ao15 b.length cp15] 61)).heap.size := by simp; omega
          go_wp2_with (at_builtin; refine wpList_append_lies _ rfl (.tmp 101) (.tmp 103) 23 rfl w.heap.size 61 j0 _ 1 24 Try.underlying23 hj0 hy0 hy1 hy2 rfl (by decide) _ _ _ rfl oB7.out ⟨w15.heap.size, 0, none⟩ 1 1 [.slice ao15 b.length cp15] rfl rfl one_cell one_slice (by decide) t2 t3 t4 (w15.heap.size + 1) (by simp) ?_; intro gg2 cap2 w17 hown hgrow hat hlt; obtain ⟨x3b, z3b⟩ := Cel.grown hgrow t5 hne3 x3a z3a)
          have M17 := hide (M16.out.grow hgrow oB7.out (by decide) (fun_append hc7.out hp7.out oB7.out hR7.out V16.out hBc hown hgrow))
          have hra3 := M17.out.1.readAt
          have hll3 := M17.out.1.len
          go_roundw
          case rel => exact ⟨f2, m2, bb ++ [b], l3, M17, by omega, by simp; omega, HR3⟩
          case measure => rw [hra2, hra3]; omega
    · have hne : ((bs (peek0 l')).toList == [41]) = false := HN1.out.trans (decide_eq_false hc1)
      have hne2 : ((bs (peek0 l')).toList != [41]) = true := by rw [bne, hne]; rfl
      obtain ⟨t1, l3, hpm, hr3⟩ := then_inv (show G.andThen (G.param E acc.length l') (fun t => G.parW E f (acc ++ [t])) = .ok (p, r4) from by have := HR.out; unfold G.parW at this; rwa [if_neg hc1] at this)
      obtain ⟨hl', rfl, hpm2⟩ := G.one_ok (by simp [G.kind]) hpm
      have hkk : G.kind (peek0 l') = t1 ∧ 1 ≤ t1 ∧ acc.length < 8 := by
        replace hpm2 : (if G.kind (peek0 l') < 1 ∨ 8 ≤ acc.length then none else some (G.kind (peek0 l'))) = some t1 := hpm2
        by_cases hcc : G.kind (peek0 l') < 1 ∨ 8 ≤ acc.length
        · rw [if_pos hcc] at hpm2; cases hpm2
        · rw [if_neg hcc] at hpm2
          injection hpm2 with hpm2
          refine ⟨hpm2, ?_, ?_⟩ <;> omega
      have HKK := hide hkk.1
      have h1t := hkk.2.1
      have hac := hkk.2.2
      have g1 : decide (t1 < 1) = false := by simp; omega
      have g2 : ¬ t1 < 1 := by omega
      have g3 : decide ((8 : Int) ≤ (acc.length : Int)) = false := by simp; omega
      have g4 : ¬ (8 : Int) ≤ (acc.length : Int) := by omega
      have HR3 := hide hr3
      clear hc1 HN1 HR hpm hpm2 hr3 hkk
      go_wp2_with fail
      refine (rpeek0 _ M5.out.1 rfl).mono ?_; rintro e w6 ⟨rfl, b6⟩
      go_wp2_with fail
      refine (rkind (peek0 l') _).mono ?_; rintro e w7 ⟨rfl, b7⟩
      rw [HKK.out]
      have M7 := hide ((M5.out.below b6).below b7)
      clear M5 b6 b7 hne hne2
      have hs7 := M7.out.lt
      obtain ⟨vp, vb, hc6, hp6, hB6, hBc⟩ := M7.out.2.1
      obtain ⟨aoP, cP, rfl⟩ := own_len hp6
      have x1 : w7.cell? ⟨c, 1, none⟩ = some (.slice aoP acc.length cP) := by simp [World.cell?, hc6, funCells]
      have z1 : w7.frozen? ⟨c, 1, none⟩ = false := by simp [World.frozen?, hc6]
      have hne3 : (Value.slice aoP acc.length cP).ownBlock ≠ some c := own_ne hp6 hc6 (by decide)
      obtain ⟨x1a, z1a⟩ := Cel.below (below_box w7 (.cells #[.int .i64 t1] 3)) hs7.2.2.2.1 x1 z1
      have M8 := hide (M7.out.below (below_box w7 (.cells #[.int .i64 t1] 3)))
      have hc7 := hide ((heap_alloc_old w7 (.cells #[.int .i64 t1] 3) (Array.getElem?_eq_some_iff.1 hc6).1).trans hc6)
      have hp7 := hide (hp6.alloc (.cells #[.int .i64 t1] 3))
      have hB7 := hide (hB6.stay (stay_below (below_box w7 (.cells #[.int .i64 t1] 3))))
      clear hc6 hp6 hB6
      have t2 : acc.length + 1 ≤ maxLen := by unfold maxLen; omega
      have t3 : (acc.length + 1) * 8 ≤ 140737488355328 := by omega
      have t4 : w.heap.size ≤ (w7.alloc (.cells #[.int .i64 t1] 3)).heap.size := by simp; omega
      have t5 : c < (w7.alloc (.cells #[.int .i64 t1] 3)).heap.size := by simp; omega
      go_upto_region 12 with (at_builtin; refine wpList_append_lies _ rfl (.tmp 50) (.tmp 52) 22 rfl w.heap.size 3 i0 _ 1 8 Try.underlying22 hi0 hz0 hz1 hz2 rfl (by decide) _ _ _ rfl hp7.out ⟨w7.heap.size, 0, none⟩ 1 1 [.int .i64 t1] rfl rfl one_cell one_one (by decide) t2 t3 t4 (w7.heap.size + 1) (by simp) ?_; intro gg2 cap2 w9 hown hgrow hat hlt; obtain ⟨x1b, z1b⟩ := Cel.grown hgrow t5 hne3 x1a z1a)
      show Code.wp _ _ _ _ (w9.setCell ⟨c, 1, none⟩ (.slice (some ⟨gg2, 0, none⟩) (acc.length + 1) cap2))
      have M9 := hide (M8.out.grow hgrow hp7.out (by decide) (fun_param hc7.out hp7.out hB7.out hBc hown hgrow))
      clear M7 M8 hown hgrow hat hlt x1b z1b x1 z1 x1a z1a hc7 hp7 hB7 t2 t3 t4 t5
      generalize w9.setCell ⟨c, 1, none⟩ (.slice (some ⟨gg2, 0, none⟩) (acc.length + 1) cap2) = W9 at *
      obtain ⟨c1, z1, c4, hq9⟩ := M9.out.1.at1
      have M10 := hide (M9.out.ate (ate_of M9.out.1 (Below.refl _ _) hl'))
      have hra3 := M10.out.1.readAt
      have hll3 := M10.out.1.len
      have htb := tail_bulk hl'
      clear c4 M9 g1 g2 g3 g4
      have hql : L.length - l'.length ≤ L.length := Nat.sub_le _ _
      generalize hqe : L.length - l'.length = q9 at *
      have hqe := hide hqe
      go_wp2_with fail
      go_roundw
      case rel => exact ⟨f, acc ++ [t1], l'.tail, M10, by simp; omega, by omega, HR3⟩
      case measure => rw [hra, hra3]; have := hqe.out; omega
end Go.Proofs.Ytnlcpfijfjbgjaa
