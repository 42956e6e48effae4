/- Layer 10, the reference: the loops of a function. Layer 10, the reference: Depth. Layer 10, the law: whether loops are the same. -/
import Derived.Test.YtmiplohoclckcaaGreatLtBA
namespace Go.Proofs.YtmiplohoclckcaaGreat
open Go Go.RowKit
open G (Tok Er Ins Fun)
/-- Loops whose row and whose lists lie from two borders on. -/
def LoopsQ (Bo Bi : Nat) (w : World) (l : List Lp) (v : Value) : Prop := ∃ cs, w.ownsRow Bo 36 4 v l.length cs ∧ LpRow Bi w l cs
theorem LoopsQ.nil (Bo Bi : Nat) (w : World) : LoopsQ Bo Bi w [] (.slice none 0 0) := ⟨[], World.ownsRow_nil _ _ _ _, rfl⟩
theorem LoopsQ.below {Bo Bi : Nat} {w w' : World} {l : List Lp} {v : Value} (h : LoopsQ Bo Bi w l v) (b : Below w.heap.size w w') : LoopsQ Bo Bi w' l v := by
  obtain ⟨cs, h1, h2⟩ := h
  exact ⟨cs, own_below b _ _ _ _ _ _ h1, h2.map (fun v n xs => own_below b Bi 3 1 v n xs) _ _⟩
theorem LoopsQ.own {Bo Bi : Nat} {w : World} {l : List Lp} {v : Value} (h : LoopsQ Bo Bi w l v) (hB : Bi ≤ Bo) : LoopsO Bi w l v := by
  obtain ⟨cs, h1, h2⟩ := h
  exact ⟨cs, own_base h1 hB, h2⟩
theorem LoopsQ.len {Bo Bi : Nat} {w : World} {l : List Lp} {v : Value} (h : LoopsQ Bo Bi w l v) : ∃ ao c, v = .slice ao l.length c := by
  obtain ⟨cs, h1, _⟩ := h
  exact own_len h1
theorem LoopsQ.step {Bo Bi : Nat} {wr w2 : World} {l : List Lp} {x : Lp} {v v' vb vk : Value} {o : Obj} (hb : wr.ownsRow Bi 3 1 vb x.2.1.length (ints x.2.1)) (hk : wr.ownsRow Bi 3 1 vk x.2.2.1.length (ints x.2.2.1))
    {cs : List Value} (hcs : wr.ownsRow Bo 36 4 v l.length cs) (hl : LpRow Bi wr l cs) (own : w2.ownsRow Bo 36 4 v' (l.length + 1) (cs ++ [.int .i64 x.1, vb, vk, .int .i64 x.2.2.2])) (hg : (wr.alloc o).grownBy w2 v.ownBlock) : LoopsQ Bo Bi w2 (l ++ [x]) v' := by
  have mv : ∀ (u : Value) (n : Nat) (xs : List Value), wr.ownsRow Bi 3 1 u n xs → w2.ownsRow Bi 3 1 u n xs := fun u n xs hu => (hu.alloc o).kept hg (own_apart hu hcs (by decide))
  refine ⟨_, by simpa using own, LpRow.snoc (mv _ _ _ hb) (mv _ _ _ hk) _ _ (hl.map mv _ _)⟩
theorem LoopsQ.set {Bo Bi : Nat} {w : World} {l : List Lp} {v : Value} {k o : Nat} {fc : Array Value} (h : LoopsQ Bo Bi w l v) (hk : w.heap[k]? = some (.cells fc 36 (0, 0))) (hf : v.ownBlock ≠ some k) (u : Value) : LoopsQ Bo Bi (w.setCell ⟨k, o, none⟩ u) l v := by
  obtain ⟨cs, h1, h2⟩ := h
  exact ⟨cs, own_setCell h1 (p := ⟨k, o, none⟩) hf u, h2.map (fun v n xs hx => own_setCell hx (p := ⟨k, o, none⟩) (fun e => block_far hx hk (by decide) e.symm) u) _ _⟩
theorem four_cell {w : World} {a0 a1 a2 a3 : Value} {t : TypeId} : ∀ (j : Nat) (u : Value), [a0, a1, a2, a3][j]? = some u → (w.alloc (.cells #[a0, a1, a2, a3] t)).cell? ((⟨w.heap.size, 0, none⟩ : Addr).add j) = some u :=
  World.news_of_block (cs := #[a0, a1, a2, a3]) (heap_alloc_new w _)
theorem lp_one {w : World} {B n m : Nat} {a d : Int} {vb vk : Value} {xs ys : List Value} (hb : w.ownsRow B 3 1 vb n xs) (hk : w.ownsRow B 3 1 vk m ys) : ∀ u ∈ [Value.int .i64 a, vb, vk, Value.int .i64 d], u.oneCell' = true := by
  obtain ⟨bo, bc, rfl⟩ := own_len hb
  obtain ⟨ko, kc, rfl⟩ := own_len hk
  intro u hu
  simp only [List.mem_cons, List.not_mem_nil, or_false] at hu
  rcases hu with rfl | rfl | rfl | rfl <;> rfl
theorem rtable_any (f : Fun) (v : Value) (w : World) (hv : FunV w f v) (hF : Ful f) (hg : Gr (succsF f)) : Calls Tryz.prog 18 #[v] w fun e w' => ∃ u, e = .returned u ∧ TabL w' (succsF f) u ∧ Below w.heap.size w w' := by
  have hp := hg.2
  obtain ⟨nm, ps, rt, bl, pl⟩ := f
  have hv2 := hv
  obtain ⟨vp, vb, rfl, ⟨ao, c, rfl, h1, _⟩, h2⟩ := hv
  obtain ⟨bo, cb, rfl, _⟩ := h2
  exact (rtable_try nm ps rt pl bl ao bo c cb w hv2 hF hg).mono fun e w' ⟨u, he, h, b⟩ => ⟨u, he, h.read hp, b⟩
/-- The first walk: the loops, not yet told which is within which. -/
def OfW (w : World) (Bo q : Nat) (fc : Array Value) (l : List Lp) (v : Value) (wr : World) : Prop := wr.heap[q]? = some (.cells fc 25 (0, 0)) ∧ LoopsQ Bo w.heap.size wr l v ∧ Below w.heap.size w wr
set_option maxHeartbeats 2000000 in
set_option maxRecDepth 20000 in
theorem rof_any (f : Fun) (v : Value) (w : World) (hv : FunV w f v) (hF : Ful f) (hT : Tos f) (h0 : 0 < f.2.2.2.1.length) :
    Calls Tryz.prog 9 #[v] w fun e w' => ∃ u, e = .returned u ∧ LoopsO w.heap.size w' (loopsF f) u ∧ Below w.heap.size w w' := by
  obtain ⟨i6, hi6, hz0, hz1, hz2⟩ := info_parts Tryz.info36
  have hv2 := hv
  obtain ⟨vp, vb, rfl, _, _⟩ := hv2
  have b0 := below_box w (.cells #[.string (bs f.1), vp, .int .i64 f.2.2.1, vb, .int .i64 f.2.2.2.2] 25)
  have X0 := hide (L5.Box.new w [.string (bs f.1), vp, .int .i64 f.2.2.1, vb, .int .i64 f.2.2.2.2] 25)
  have HV := hide (hv.below b0)
  have B0 := hide b0
  have HV0 := hide hv
  have HTb := hide (fun v w hv => rtable_any f v w hv hF (gr_succs hT h0))
  have HOn := hide (fun (h : Nat) v tv w hv ht => rone_any f h v tv w hv ht hF hT h0)
  have hN : f.2.2.2.1.length ≤ 1000000 := hF.1
  clear hF hT h0
  clear b0 hv
  obtain ⟨lp, cp, rfl⟩ : ∃ ao c, vp = .slice ao f.2.1.length c := by
    obtain ⟨vp', vb', e, ⟨ao, c, e2, _⟩, _⟩ := HV.out
    injection e with e
    have e1 := congrArg (fun a => a[1]?) e
    simp at e1
    exact ⟨ao, c, by rw [e1, e2]⟩
  obtain ⟨lb, cb, rfl⟩ : ∃ ao c, vb = .slice ao f.2.2.2.1.length c := by
    obtain ⟨vp', vb', e, _, ⟨ao, c, e2, _⟩⟩ := HV.out
    injection e with e
    have e1 := congrArg (fun a => a[3]?) e
    simp at e1
    exact ⟨ao, c, by rw [e1, e2]⟩
  generalize bs f.1 = nm at *
  generalize f.2.1.length = lps at *
  generalize f.2.2.1 = rt at *
  obtain ⟨lbs, hlbs⟩ : ∃ n, n = f.2.2.2.1.length := ⟨_, rfl⟩
  have HEnd : Hid (rawL f = loopK f lbs) := hide (by rw [hlbs]; rfl)
  rw [← hlbs] at X0 HV HV0 B0 hN ⊢
  clear hlbs
  generalize f.2.2.2.2 = pl at *
  go_enter Tryz.func9, Tryz.ntmps9
  go_upto_region 1 with fail
  show Code.wp _ _ _ _ (w.alloc (.cells #[.string nm, .slice lp lps cp, .int .i64 rt, .slice lb lbs cb, .int .i64 pl] 25))
  have hA : Hid ((w.alloc (.cells #[.string nm, .slice lp lps cp, .int .i64 rt, .slice lb lbs cb, .int .i64 pl] 25)).heap[w.heap.size]? = some (.cells #[.string nm, .slice lp lps cp, .int .i64 rt, .slice lb lbs cb, .int .i64 pl] 25 (0, 0))) := hide (World.alloc_heap_new w _)
  have hsW : w.heap.size < (w.alloc (.cells #[.string nm, .slice lp lps cp, .int .i64 rt, .slice lb lbs cb, .int .i64 pl] 25)).heap.size := by simp
  clear X0
  generalize w.alloc (.cells #[.string nm, .slice lp lps cp, .int .i64 rt, .slice lb lbs cb, .int .i64 pl] 25) = W at *
  have X0 := hide (box_five hA.out)
  obtain ⟨x0, x1, x2, x3, x4⟩ : _ ∧ _ ∧ _ ∧ _ ∧ _ := ⟨X0.out.2 0 _ rfl, X0.out.2 1 _ rfl, X0.out.2 2 _ rfl, X0.out.2 3 _ rfl, X0.out.2 4 _ rfl⟩
  have HC := hide (HTb.out _ W HV.out)
  go_wp2_with fail
  refine HC.out.mono ?_; rintro e w1 ⟨tv, rfl, ht, b1⟩
  have HS0 : Hid (OfW w w1.heap.size w.heap.size #[.string nm, .slice lp lps cp, .int .i64 rt, .slice lb lbs cb, .int .i64 pl] (loopK f 0) (.slice none 0 0) w1) := hide ⟨(b1.block _ hsW).trans hA.out, LoopsQ.nil _ _ _, below_step B0.out b1⟩
  have hw1 : w.heap.size ≤ w1.heap.size := Nat.le_trans B0.out.size b1.size
  have HT := hide ht
  obtain ⟨tb, to, tc, rfl, _, _⟩ := ht
  clear x0 x1 x2 x3 x4 HC hA hsW X0 b1 HV B0 HTb
  go_wp2_with fail
  go_loopw [3, 5] (fun lv i wr => ∃ K : Nat, K ≤ lbs ∧ i = .int .i64 K ∧ Hid (OfW w w1.heap.size w.heap.size #[.string nm, .slice lp lps cp, .int .i64 rt, .slice lb lbs cb, .int .i64 pl] (loopK f K) lv wr) ∧ Hid (Below w1.heap.size w1 wr)) (fun _ i _ => lbs - (intOf i).toNat)
  case atStart => exact ⟨0, Nat.zero_le _, rfl, HS0, hide (Below.refl _ _)⟩
  case round =>
    clear HS0
    obtain ⟨K, hK, rfl, HS, HW⟩ := hrel
    have hkl := loopK_len f K
    obtain ⟨y1, y2, y3⟩ := id HS.out
    obtain ⟨lo, lc, rfl⟩ := y2.len
    have X1 := hide (box_five y1)
    obtain ⟨x0, x1, x2, x3, x4⟩ : _ ∧ _ ∧ _ ∧ _ ∧ _ := ⟨X1.out.2 0 _ rfl, X1.out.2 1 _ rfl, X1.out.2 2 _ rfl, X1.out.2 3 _ rfl, X1.out.2 4 _ rfl⟩
    by_cases hkt : K < lbs
    · have hkI : (K : Int) < lbs := by omega
      have HC2 := hide (HOn.out K _ _ wr (HV0.out.below y3) (HT.out.below HW.out))
      clear y1 y2 y3
      go_wp2_with fail
      refine HC2.out.mono ?_; rintro e w2 ⟨b2, hcase⟩
      clear HC2 x0 x1 x2 x3 x4 X1
      rcases hcase with ⟨hbe, rfl⟩ | ⟨hbn, vb, vk, rfl, hvb, hvk⟩
      · have HE : Hid (OfW w w1.heap.size w.heap.size #[.string nm, .slice lp lps cp, .int .i64 rt, .slice lb lbs cb, .int .i64 pl] (loopK f (K + 1)) (.slice lo (loopK f K).length lc) (w2.alloc (.cells #[.int .i64 0, .slice none 0 0, .slice none 0 0, .int .i64 0] 36)) ∧ Below w1.heap.size w1 (w2.alloc (.cells #[.int .i64 0, .slice none 0 0, .slice none 0 0, .int .i64 0] 36))) := hide (by
          obtain ⟨y1, y2, y3⟩ := HS.out
          have b3 := below_step b2 (below_box w2 (.cells #[.int .i64 0, .slice none 0 0, .slice none 0 0, .int .i64 0] 36))
          rw [loopK_no hbe]
          exact ⟨⟨(b3.block _ (Array.getElem?_eq_some_iff.1 y1).1).trans y1, y2.below b3, below_step y3 b3⟩, below_step HW.out b3⟩)
        clear hbe b2
        go_wp2_with fail
        go_roundw
        case rel => exact ⟨K + 1, by omega, by go_num, hide HE.out.1, hide HE.out.2⟩
        case measure => simp [intOf]; omega
      · obtain ⟨bo, bc, rfl⟩ := own_len hvb
        obtain ⟨ko, kc, rfl⟩ := own_len hvk
        have HLk := hide (loopK_yes hbn)
        have hws := b2.size
        have hyw := HS.out.2.2.size
        have b3 := below_step b2 (below_box w2 (.cells #[.int .i64 K, .slice bo (blocksOf f K).length bc, .slice ko (backsOf f K).length kc, .int .i64 (-1)] 36))
        have HS3 : Hid (OfW w w1.heap.size w.heap.size #[.string nm, .slice lp lps cp, .int .i64 rt, .slice lb lbs cb, .int .i64 pl] (loopK f K) (.slice lo (loopK f K).length lc) (w2.alloc (.cells #[.int .i64 K, .slice bo (blocksOf f K).length bc, .slice ko (backsOf f K).length kc, .int .i64 (-1)] 36))) := hide (by
          obtain ⟨y1, y2, y3⟩ := HS.out
          exact ⟨(b3.block _ (Array.getElem?_eq_some_iff.1 y1).1).trans y1, y2.below b3, below_step y3 b3⟩)
        have HW3 := hide (below_step HW.out b3)
        have HB3 := hide (own_base (own_below (below_box w2 (.cells #[.int .i64 K, .slice bo (blocksOf f K).length bc, .slice ko (backsOf f K).length kc, .int .i64 (-1)] 36)) _ _ _ _ _ _ hvb) hyw)
        have HK3 := hide (own_base (own_below (below_box w2 (.cells #[.int .i64 K, .slice bo (blocksOf f K).length bc, .slice ko (backsOf f K).length kc, .int .i64 (-1)] 36)) _ _ _ _ _ _ hvk) hyw)
        have hX := World.alloc_heap_new w2 (.cells #[.int .i64 K, .slice bo (blocksOf f K).length bc, .slice ko (backsOf f K).length kc, .int .i64 (-1)] 36)
        have HX := hide hX
        clear hX hbn hvb hvk b2 b3 HS HW
        go_upto_region 7 with fail
        show Code.wp _ _ _ _ (w2.alloc (.cells #[.int .i64 K, .slice bo (blocksOf f K).length bc, .slice ko (backsOf f K).length kc, .int .i64 (-1)] 36))
        generalize w2.alloc (.cells #[.int .i64 K, .slice bo (blocksOf f K).length bc, .slice ko (backsOf f K).length kc, .int .i64 (-1)] 36) = w3 at *
        obtain ⟨⟨c0, c1, c2, c3⟩, _, _⟩ := four_of HX.out
        obtain ⟨y1, ⟨cs, y2, y4⟩, y3⟩ := id HS3.out
        have Y2 := hide y2
        have Y4 := hide y4
        have hy9 := HW3.out.size
        have HOc := hide (lp_one (a := (K : Int)) (d := -1) HB3.out HK3.out)
        have hy3 := y3.size
        clear y1 y2 y3 y4
        go_wp2_with (at_builtin; refine wpList_append_own_at _ rfl (.tmp 28) (.tmp 30) 28 rfl w1.heap.size 36 i6 _ 4 64 Tryz.underlying28 hi6 hz0 hz1 hz2 rfl (by decide) _ _ _ rfl (Y2.out.alloc _) ⟨w3.heap.size, 0, none⟩ 1 1 [.int .i64 K, .slice bo (blocksOf f K).length bc, .slice ko (backsOf f K).length kc, .int .i64 (-1)] rfl rfl four_cell HOc.out (by unfold maxLen; omega) (by omega) (by simp; omega) ?_; intro v5 w5 own5 grow5 _ at5; refine Hid.out ?_)
        have HE : Hid (OfW w w1.heap.size w.heap.size #[.string nm, .slice lp lps cp, .int .i64 rt, .slice lb lbs cb, .int .i64 pl] (loopK f (K + 1)) v5 w5 ∧ Below w1.heap.size w1 w5) := hide (by
          obtain ⟨y1, _, y3⟩ := HS3.out
          refine ⟨⟨?_, ?_, ?_⟩, ?_⟩
          · rw [grow5.block _ (by simp; omega) (block_far Y2.out y1 (by decide)), Below.heap_alloc _ _ _ (Array.getElem?_eq_some_iff.1 y1).1]
            exact y1
          · rw [HLk.out]
            exact LoopsQ.step (x := ((K : Int), blocksOf f K, backsOf f K, -1)) HB3.out HK3.out Y2.out Y4.out own5 grow5
          · exact Below.grown (y3.alloc hy3 _) grow5 (by simp; omega) (fun j hj => by have := (Y2.out.lt j hj).1; omega)
          · exact Below.grown (HW3.out.alloc hy9 _) grow5 (by simp; omega) (fun j hj => (Y2.out.lt j hj).1))
        obtain ⟨vo, vc, rfl⟩ := own_len own5
        clear own5 grow5 at5 c0 c1 c2 c3
        refine hide ?_
        go_wp2_with fail
        go_roundw
        case rel => exact ⟨K + 1, by omega, by go_num, hide HE.out.1, hide HE.out.2⟩
        case measure => simp [intOf]; omega
    · obtain rfl : K = lbs := by omega
      have HWs := hide y3
      obtain ⟨raw, hraw⟩ : ∃ raw, loopK f K = raw := ⟨_, rfl⟩
      rw [hraw] at y2 hkl HEnd
      rw [hraw]
      have HLf : Hid (loopsF f = upsK raw raw.length) := hide (by unfold loopsF; rw [HEnd.out])
      have HRv := hide ((y2.own hw1).read)
      have HQ := hide y2
      clear HS y1 y2 y3 hraw X1 HEnd HOn
      have hrl : raw.length ≤ 1000000 := by omega
      go_wp2_with fail
      clear x0 x1 x2 x3 x4
      obtain ⟨w6, hw6⟩ : ∃ w6, w6 = wr := ⟨_, rfl⟩
      rw [← hw6] at HWs HRv HQ ⊢
      clear hw6 HW
      go_loopw [8, 9] (fun ov i wr => ∃ I : Nat, I ≤ raw.length ∧ i = .int .i64 I ∧ Hid (LoopsQ w6.heap.size w.heap.size wr (upsK raw I) ov) ∧ Hid (Below w6.heap.size w6 wr)) (fun _ i _ => raw.length - (intOf i).toNat)
      case atStart => exact ⟨0, Nat.zero_le _, rfl, hide (LoopsQ.nil _ _ _), hide (Below.refl _ _)⟩
      case round =>
        obtain ⟨I, hI, rfl, HS, HW⟩ := hrel
        obtain ⟨oo, oc, rfl⟩ := HS.out.len
        have hol : (upsK raw I).length = I := upsK_len raw I
        rw [hol] at HS ⊢
        by_cases hit : I < raw.length
        · have hiI : (I : Int) < raw.length := by omega
          obtain ⟨cs, q1, q2⟩ := HQ.out
          obtain ⟨vb, vk, a0, a1, a2, a3, ob, ok⟩ := LpRow.at raw cs q2 I _ (lpN_at hit)
          rcases own_view q1 with ⟨_, hn⟩ | ⟨g, cap, hge, k1, k2, k3, k4, k5, k6⟩
          · omega
          injection hge with hg1 hg2 hg3
          subst hg1 hg3
          have c0 := (HW.out.cell (p := ⟨g, I * 4, none⟩) k4).trans (k5 _ _ a0)
          have c1 := (HW.out.cell (p := ⟨g, I * 4 + 1, none⟩) k4).trans (k5 _ _ a1)
          have c2 := (HW.out.cell (p := ⟨g, I * 4 + 2, none⟩) k4).trans (k5 _ _ a2)
          have c3 := (HW.out.cell (p := ⟨g, I * 4 + 3, none⟩) k4).trans (k5 _ _ a3)
          obtain ⟨bo, bc, rfl⟩ := own_len ob
          obtain ⟨ko, kc, rfl⟩ := own_len ok
          have HOb := hide (own_below HW.out _ _ _ _ _ _ ob)
          have HOk := hide (own_below HW.out _ _ _ _ _ _ ok)
          obtain ⟨y, hy⟩ : ∃ y, lpN raw I = y := ⟨_, rfl⟩
          have HUs := hide (upsK_succ raw I)
          rw [hy] at c0 c1 c2 c3 HOb HOk HUs
          have hws := HW.out.size
          clear q1 q2 a0 a1 a2 a3 ob ok k1 k2 k3 k5 k6 hy
          go_upto_region 14 with fail
          show Code.wp _ _ _ _ (wr.alloc (.cells #[.int .i64 y.1, .slice bo y.2.1.length bc, .slice ko y.2.2.1.length kc, .int .i64 y.2.2.2] 36))
          have b3 := below_box wr (.cells #[.int .i64 y.1, .slice bo y.2.1.length bc, .slice ko y.2.2.1.length kc, .int .i64 y.2.2.2] 36)
          have HX := hide (World.alloc_heap_new wr (.cells #[.int .i64 y.1, .slice bo y.2.1.length bc, .slice ko y.2.2.1.length kc, .int .i64 y.2.2.2] 36))
          obtain ⟨bx, hbx⟩ : ∃ bx, wr.heap.size = bx := ⟨_, rfl⟩
          have HS3 := hide (HS.out.below b3)
          have HW3 := hide (below_step HW.out b3)
          have HOb3 := hide (own_below b3 _ _ _ _ _ _ HOb.out)
          have HOk3 := hide (own_below b3 _ _ _ _ _ _ HOk.out)
          rw [hbx] at HX ⊢
          have hbx6 : w6.heap.size ≤ bx := by omega
          have HF : Hid ((Value.slice oo I oc).ownBlock ≠ some bx) := hide (by
            obtain ⟨cs, p1, _⟩ := HS.out
            intro e
            have := (p1.lt bx e).2
            omega)
          clear c0 c1 c2 c3 b3 HS HW HOb HOk hbx hws
          generalize wr.alloc (.cells #[.int .i64 y.1, .slice bo y.2.1.length bc, .slice ko y.2.2.1.length kc, .int .i64 y.2.2.2] 36) = w7 at *
          have HC7 := hide (rwithin_any raw I hit hrl _ w7 (HRv.out.below HW3.out))
          obtain ⟨r, HRr⟩ : ∃ r, Hid (bestK raw I raw.length = r) := ⟨_, hide rfl⟩
          rw [HRr.out] at HC7
          rw [HRr.out] at HUs
          have hbx7 : bx < w7.heap.size := (four_of HX.out).2.2
          obtain ⟨⟨c0, c1, c2, c3⟩, ⟨f0, f1, f2, f3⟩, _⟩ := four_of HX.out
          go_wp2_with fail
          refine HC7.out.mono ?_; rintro e w8 ⟨rfl, b8⟩
          replace HX := hide ((b8.block bx hbx7).trans HX.out)
          replace HS3 := hide (HS3.out.below b8)
          replace HW3 := hide (below_step HW3.out b8)
          replace HOb3 := hide (own_below b8 _ _ _ _ _ _ HOb3.out)
          replace HOk3 := hide (own_below b8 _ _ _ _ _ _ HOk3.out)
          clear c0 c1 c2 c3 f0 f1 f2 f3 HC7 b8 hbx7
          obtain ⟨⟨c0, c1, c2, c3⟩, ⟨f0, f1, f2, f3⟩, hbx8⟩ := four_of HX.out
          go_upto_region 15 with fail
          show Code.wp _ _ _ _ (w8.setCell ⟨bx, 3, none⟩ (.int .i64 r))
          clear c0 c1 c2 c3 f0 f1 f2 f3
          have HX9 : Hid ((w8.setCell ⟨bx, 3, none⟩ (.int .i64 r)).heap[bx]? = some (.cells #[.int .i64 y.1, .slice bo y.2.1.length bc, .slice ko y.2.2.1.length kc, .int .i64 r] 36 (0, 0))) := hide ((heap_setCell_same w8 bx 3 _ 36 _ HX.out).trans rfl)
          have HS9 := hide (HS3.out.set (o := 3) HX.out HF.out (.int .i64 r))
          have HW9 := hide (HW3.out.setCell (p := ⟨bx, 3, none⟩) hbx6 (.int .i64 r))
          have HOb9 := hide (own_setCell HOb3.out (p := ⟨bx, 3, none⟩) (fun e => block_far HOb3.out HX.out (by decide) e.symm) (.int .i64 r))
          have HOk9 := hide (own_setCell HOk3.out (p := ⟨bx, 3, none⟩) (fun e => block_far HOk3.out HX.out (by decide) e.symm) (.int .i64 r))
          clear HX HS3 HW3 HOb3 HOk3 hbx8 HF
          generalize w8.setCell ⟨bx, 3, none⟩ (.int .i64 r) = w9 at *
          obtain ⟨⟨c0, c1, c2, c3⟩, _, _⟩ := four_of HX9.out
          obtain ⟨cs9, y2, y4⟩ := id HS9.out
          have Y2 := hide y2
          have Y4 := hide y4
          have hy9 := HW9.out.size
          have HOc := hide (lp_one (a := y.1) (d := r) HOb9.out HOk9.out)
          clear y2 y4
          go_wp2_with (at_builtin; refine wpList_append_own_at _ rfl (.tmp 46) (.tmp 48) 28 rfl w6.heap.size 36 i6 _ 4 64 Tryz.underlying28 hi6 hz0 hz1 hz2 rfl (by decide) _ _ _ rfl (Y2.out.alloc _) ⟨w9.heap.size, 0, none⟩ 1 1 [.int .i64 y.1, .slice bo y.2.1.length bc, .slice ko y.2.2.1.length kc, .int .i64 r] rfl rfl four_cell HOc.out (by unfold maxLen; omega) (by omega) (by simp; omega) ?_; intro v5 w5 own5 grow5 _ at5; refine Hid.out ?_)
          have HE : Hid (LoopsQ w6.heap.size w.heap.size w5 (upsK raw (I + 1)) v5 ∧ Below w6.heap.size w6 w5) := hide (by
            refine ⟨?_, ?_⟩
            · rw [HUs.out]
              exact LoopsQ.step (x := (y.1, y.2.1, y.2.2.1, r)) HOb9.out HOk9.out Y2.out Y4.out own5 grow5
            · exact Below.grown (HW9.out.alloc hy9 _) grow5 (by simp; omega) (fun j hj => (Y2.out.lt j hj).1))
          obtain ⟨vo, vc, rfl⟩ := own_len own5
          clear own5 grow5 at5 c0 c1 c2 c3
          refine hide ?_
          go_wp2_with fail
          go_roundw
          case rel => exact ⟨I + 1, by omega, by go_num, hide HE.out.1, hide HE.out.2⟩
          case measure => simp [intOf]; omega
        · obtain rfl : I = raw.length := by omega
          have HE : Hid (LoopsO w.heap.size wr (loopsF f) (.slice oo raw.length oc) ∧ Below w.heap.size w wr) := hide ⟨by rw [HLf.out]; exact HS.out.own HWs.out.size, below_step HWs.out HW.out⟩
          clear hol
          go_wp2_with fail
          go_ret
          exact ⟨_, rfl, HE.out.1, HE.out.2⟩
end Go.Proofs.YtmiplohoclckcaaGreat
namespace Go.Proofs.YtmiplohoclckcaaGreat
open Go Go.RowKit
open G (Tok Er Ins Fun)
theorem LoopsV.at {w : World} {l : List Lp} {ao : Option Addr} (h : l = [] ∨ ∃ g o, ao = some ⟨g, o, none⟩ ∧ ∀ (i : Nat) (x : Lp), l[i]? = some x → LpR w x g (o + i * 4)) {i : Nat} (hi : i < l.length) : ∃ g o, ao = some ⟨g, o, none⟩ ∧ LpR w (lpN l i) g (o + i * 4) := by
  rcases h with rfl | ⟨g, o, rfl, hc⟩
  · simp at hi
  · exact ⟨g, o, rfl, hc i _ (lpN_at hi)⟩
theorem depthL_succ (l : List Lp) (k : Int) (K : Nat) : depthL l k (K + 1) = depthL l k K + (if hasL (lpN l K).2.1 k then 1 else 0) := cntB_succ _ _
theorem depthL_max (l : List Lp) (k : Int) (K : Nat) : depthL l k K ≤ K := cntB_max _ _
set_option maxHeartbeats 2000000 in
set_option maxRecDepth 20000 in
theorem rdepth_any (l : List Lp) (k : Int) (hl : l.length ≤ 1000000) (v : Value) (w : World) (hv : LoopsV w l v) :
    Calls Tryz.prog 12 #[v, .int .i64 k] w fun e w' => e = .returned (.int .i64 (depthL l k l.length)) ∧ w' = w := by
  obtain ⟨ao, c, rfl, _, _, hv3⟩ := hv
  have HC := hide hv3
  clear hv3
  go_enter Tryz.func12, Tryz.ntmps12
  go_wp2_with fail
  go_loopw [5, 6] (fun bv kv wr => ∃ K : Nat, K ≤ l.length ∧ bv = .int .i64 (depthL l k K) ∧ kv = .int .i64 K ∧ wr = w) (fun _ kv _ => l.length - (intOf kv).toNat)
  case atStart => exact ⟨0, Nat.zero_le _, rfl, rfl, rfl⟩
  case round =>
    obtain ⟨K, hK, rfl, rfl, rfl⟩ := hrel
    by_cases hkt : K < l.length
    · have hkI : (K : Int) < l.length := by omega
      obtain ⟨g, o, rfl, hr⟩ := LoopsV.at HC.out hkt
      obtain ⟨bo, bc, hgl, a0, a1, a2, a3⟩ := lp_cells hr
      have HH := hide (rhas_any (lpN l K).2.1 k bo bc wr a2 a3)
      have hm := depthL_max l k K
      have HE := hide (depthL_succ l k K)
      unfold maxLen at a3
      clear hr a0 a2
      cases hh : hasL (lpN l K).2.1 k with
      | false =>
        rw [hh] at HH HE
        clear hh
        go_wp2_with fail
        refine HH.out.mono ?_; rintro e w2 ⟨rfl, rfl⟩
        clear HH a1
        go_wp2_with fail
        go_roundw
        case rel => exact ⟨K + 1, by omega, by rw [HE.out]; rfl, by go_num, trivial⟩
        case measure => simp [intOf]; omega
      | true =>
        rw [hh] at HH HE
        clear hh
        go_wp2_with fail
        refine HH.out.mono ?_; rintro e w2 ⟨rfl, rfl⟩
        clear HH a1
        go_wp2_with fail
        go_roundw
        case rel => exact ⟨K + 1, by omega, by rw [HE.out]; go_num, by go_num, trivial⟩
        case measure => simp [intOf]; omega
    · obtain rfl : K = l.length := by omega
      go_wp2_with fail
      go_ret
      exact ⟨rfl, rfl⟩
end Go.Proofs.YtmiplohoclckcaaGreat
namespace Go.Proofs.YtmiplohoclckcaaGreat
open Go Go.RowKit
open G (Tok Er Ins Fun)
/-- A loop's cells, all of them. -/
theorem lp_all {w : World} {x : Lp} {g o : Nat} (h : LpR w x g o) : ∃ vb vk, g < w.heap.size ∧ w.cell? ⟨g, o, none⟩ = some (.int .i64 x.1) ∧ w.cell? ⟨g, o + 1, none⟩ = some vb ∧ w.cell? ⟨g, o + 2, none⟩ = some vk ∧ w.cell? ⟨g, o + 3, none⟩ = some (.int .i64 x.2.2.2) ∧ IntsV w x.2.1 vb ∧ IntsV w x.2.2.1 vk := by
  obtain ⟨h1, vb, vk, c0, c1, c2, c3, k1, k2⟩ := h
  exact ⟨vb, vk, h1, c0, c1, c2, c3, k1, k2⟩
set_option maxHeartbeats 4000000 in
set_option maxRecDepth 20000 in
theorem same10_any (l : List Lp) (u v : Value) (w : World) (hu : LoopsV w l u) (hv : LoopsV w l v) (hl : l.length ≤ 1000000) :
    Calls Tryz.prog 10 #[u, v] w fun e w' => e = .returned (.bool true) ∧ Below w.heap.size w w' := by
  obtain ⟨ao, c, rfl, _, _, hu3⟩ := hu
  obtain ⟨bo, d, rfl, _, _, hv3⟩ := hv
  have HU := hide hu3
  have HV := hide hv3
  clear hu3 hv3
  go_enter Tryz.func10, Tryz.ntmps10
  go_wp2_with fail
  go_loopw [5] (fun kv wr => ∃ K : Nat, K ≤ l.length ∧ kv = .int .i64 K ∧ Hid (Below w.heap.size w wr)) (fun kv _ => l.length - (intOf kv).toNat)
  case atStart => exact ⟨0, Nat.zero_le _, rfl, hide (Below.refl _ _)⟩
  case round =>
    obtain ⟨K, hK, rfl, HW⟩ := hrel
    by_cases hkt : K < l.length
    · have hkI : (K : Int) < l.length := by omega
      obtain ⟨g, o, rfl, hr⟩ := LoopsV.at HU.out hkt
      obtain ⟨g2, o2, rfl, hr2⟩ := LoopsV.at HV.out hkt
      obtain ⟨vb, vk, hgl, a0, a1, a2, a3, ib, ik⟩ := lp_all hr
      obtain ⟨vb2, vk2, hgl2, d0, d1, d2, d3, jb, jk⟩ := lp_all hr2
      have hB2 := fun x => below_step HW.out (L5.grewTo_below wr x)
      have HHb := hide (fun x => ints_any (lpN l K).2.1 vb vb2 (L5.grewTo wr x) (ib.below (hB2 x)) (jb.below (hB2 x)))
      have HHk := hide (fun x => ints_any (lpN l K).2.2.1 vk vk2 (L5.grewTo wr x) (ik.below (hB2 x)) (jk.below (hB2 x)))
      obtain ⟨vbo, vbc, rfl, _⟩ := id ib
      obtain ⟨vko, vkc, rfl, _⟩ := id ik
      obtain ⟨vbo2, vbc2, rfl, _⟩ := id jb
      obtain ⟨vko2, vkc2, rfl, _⟩ := id jk
      clear ib ik jb jk hr hr2
      generalize (lpN l K).1 = yh at *
      generalize (lpN l K).2.2.2 = yu at *
      generalize (lpN l K).2.1.length = yb at *
      generalize (lpN l K).2.2.1.length = yk at *
      have p0 := fun x => ((hB2 x).cell (p := ⟨g, o + K * 4, none⟩) hgl).trans a0
      have p1 := fun x => ((hB2 x).cell (p := ⟨g, o + K * 4 + 1, none⟩) hgl).trans a1
      have p2 := fun x => ((hB2 x).cell (p := ⟨g, o + K * 4 + 2, none⟩) hgl).trans a2
      have p3 := fun x => ((hB2 x).cell (p := ⟨g, o + K * 4 + 3, none⟩) hgl).trans a3
      have q0 := fun x => ((hB2 x).cell (p := ⟨g2, o2 + K * 4, none⟩) hgl2).trans d0
      have q1 := fun x => ((hB2 x).cell (p := ⟨g2, o2 + K * 4 + 1, none⟩) hgl2).trans d1
      have q2 := fun x => ((hB2 x).cell (p := ⟨g2, o2 + K * 4 + 2, none⟩) hgl2).trans d2
      have q3 := fun x => ((hB2 x).cell (p := ⟨g2, o2 + K * 4 + 3, none⟩) hgl2).trans d3
      replace hB2 := hide hB2
      clear a0 a1 a2 a3 d0 d1 d2 d3
      go_wp2_with fail
      refine L5.region_grew (by kernel_rfl) (by kernel_rfl) ?_
      repeat (go_big_quiet_step ((go_at_call 13; first | with_reducible exact L5.calls_grew (HHb.out _) | with_reducible exact L5.calls_grew (HHk.out _))))
      refine wpQuiet_nil ?_
      rintro _ ⟨x, rfl⟩
      go_wp2_with fail
      go_roundw
      case rel => exact ⟨K + 1, by omega, by go_num, hide (hB2.out x)⟩
      case measure => simp [intOf]; omega
    · obtain rfl : K = l.length := by omega
      go_wp2_with fail
      go_ret
      exact ⟨rfl, HW.out⟩
end Go.Proofs.YtmiplohoclckcaaGreat
