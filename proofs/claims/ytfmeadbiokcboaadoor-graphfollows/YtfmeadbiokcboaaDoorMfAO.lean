/- Layer 8, the program: the order, and where each block stands in it. Layer 8, the reference: edges that go back. Layer 8, the program: where each block stands; edges that go back. -/
import Derived.Test.YtfmeadbiokcboaaDoorMfAL
import Derived.Test.YtfmeadbiokcboaaDoorMfAN
namespace Go.Proofs.YtfmeadbiokcboaaDoor
open Go Go.RowKit
open G (Tok Er Ins Fun)
/-- What Succs gave, as order takes it. -/
theorem succs_read {B : Nat} {f : Fun} {w : World} {v : Value} (h : RowsO B w (succsF f) v) : ∃ ao c, v = .slice ao f.2.2.2.1.length c ∧ RowsR w ao (succsF f) := by
  obtain ⟨ao, c, e, h1, _⟩ := h.read
  exact ⟨ao, c, by rw [e, succsF_len], h1⟩
set_option maxHeartbeats 4000000 in
set_option maxRecDepth 20000 in
theorem orderP_try (nm : List UInt8) (ps : List Int) (rt pl : Int) (bl : List (List Ins)) (ao bo : Option Addr) (c cb : Nat) (w : World)
    (hv : FunV w (nm, ps, rt, bl, pl) (.agg #[.string (bs nm), .slice ao ps.length c, .int .i64 rt, .slice bo bl.length cb, .int .i64 pl])) (hF : Ful (nm, ps, rt, bl, pl)) (hT : Tos (nm, ps, rt, bl, pl)) (h0 : 0 < bl.length) :
    Calls Tryd.prog 18 #[.agg #[.string (bs nm), .slice ao ps.length c, .int .i64 rt, .slice bo bl.length cb, .int .i64 pl]] w fun e w' => ∃ u, e = .returned u ∧ w'.ownsRow w.heap.size 3 1 u (orderF (nm, ps, rt, bl, pl)).length (ints (orderF (nm, ps, rt, bl, pl))) ∧ Below w.heap.size w w' := by
  have b0 := below_box w (.cells #[.string (bs nm), .slice ao ps.length c, .int .i64 rt, .slice bo bl.length cb, .int .i64 pl] 25)
  have X0 := hide (L5.Box.new w [.string (bs nm), .slice ao ps.length c, .int .i64 rt, .slice bo bl.length cb, .int .i64 pl] 25)
  have HC := hide (succs_any (nm, ps, rt, bl, pl) _ _ (hv.below b0) hF hT)
  have HO := hide (fun no nc w hr => order_any (nm, ps, rt, bl, pl) no nc w hr hF hT h0)
  have B0 := hide b0
  clear b0 hv hF hT h0
  go_enter Tryd.func18, Tryd.ntmps18
  go_upto_region 1 with fail
  show Code.wp _ _ _ _ (w.alloc (.cells #[.string (bs nm), .slice ao ps.length c, .int .i64 rt, .slice bo bl.length cb, .int .i64 pl] 25))
  replace X0 : Hid (L5.Box (w.alloc (.cells #[.string (bs nm), .slice ao ps.length c, .int .i64 rt, .slice bo bl.length cb, .int .i64 pl] 25)) w.heap.size [.string (bs nm), .slice ao ps.length c, .int .i64 rt, .slice bo bl.length cb, .int .i64 pl]) := X0
  generalize w.alloc (.cells #[.string (bs nm), .slice ao ps.length c, .int .i64 rt, .slice bo bl.length cb, .int .i64 pl] 25) = W at *
  obtain ⟨x0, x1, x2, x3, x4⟩ : _ ∧ _ ∧ _ ∧ _ ∧ _ := ⟨X0.out.2 0 _ rfl, X0.out.2 1 _ rfl, X0.out.2 2 _ rfl, X0.out.2 3 _ rfl, X0.out.2 4 _ rfl⟩
  go_wp2_with fail
  refine HC.out.mono ?_; rintro e w1 ⟨v, rfl, hr, b1⟩
  obtain ⟨no, nc, rfl, hrr⟩ := succs_read hr
  have HO1 := hide (HO.out no nc w1 hrr)
  have B1 := hide b1
  clear x0 x1 x2 x3 x4 hr hrr b1 HC HO
  go_wp2_with fail
  refine HO1.out.mono ?_; rintro e w2 ⟨u, rfl, hu, b2⟩
  have HE := hide (And.intro (own_base hu (Nat.le_trans B0.out.size B1.out.size)) (below_step B0.out (below_step B1.out b2)))
  clear hu b2 HO1
  go_wp2_with fail
  go_ret
  exact ⟨_, rfl, HE.out.1, HE.out.2⟩
theorem orderP_any (f : Fun) (v : Value) (w : World) (hv : FunV w f v) (hF : Ful f) (hT : Tos f) (h0 : 0 < f.2.2.2.1.length) :
    Calls Tryd.prog 18 #[v] w fun e w' => ∃ u, e = .returned u ∧ w'.ownsRow w.heap.size 3 1 u (orderF f).length (ints (orderF f)) ∧ Below w.heap.size w w' := by
  obtain ⟨nm, ps, rt, bl, pl⟩ := f
  have hv2 := hv
  obtain ⟨vp, vb, rfl, ⟨ao, c, rfl, h1, _⟩, h2⟩ := hv
  obtain ⟨bo, cb, rfl, _⟩ := h2
  exact orderP_try nm ps rt pl bl ao bo c cb w hv2 hF hT h0
def fillTo (n I : Nat) : List Int := List.replicate I (-1) ++ List.replicate (n - I) 0
theorem fillTo_len {n I : Nat} (h : I ≤ n) : (fillTo n I).length = n := by simp [fillTo]; omega
theorem fillTo_set {n I : Nat} (h : I < n) : (fillTo n I).set I (-1) = fillTo n (I + 1) := by
  unfold fillTo
  obtain ⟨M, hM⟩ : ∃ M, n - I = M + 1 := ⟨n - I - 1, by omega⟩
  rw [List.set_append_right _ _ (by simp), List.length_replicate, Nat.sub_self, hM, List.replicate_succ, List.set_cons_zero, Nat.sub_add_eq, hM, Nat.add_sub_cancel, List.replicate_succ', List.append_assoc]; rfl
theorem fillTo_end (n : Nat) : fillTo n n = placesTo n [] := by rw [placesTo_nil]; simp [fillTo]
theorem order_num {f : Fun} (hT : Tos f) (h0 : 0 < f.2.2.2.1.length) : (orderF f).Nodup ∧ Num f.2.2.2.1.length (orderF f) := by
  obtain ⟨h1, h2⟩ := post0_num hT h0
  exact ⟨List.pairwise_reverse.2 (h1.imp fun h e => h e.symm), fun m hm => h2 m (List.mem_reverse.1 hm)⟩
set_option maxHeartbeats 4000000 in
set_option maxRecDepth 20000 in
theorem places_try (f : Fun) (no : Option Addr) (nc : Nat) (w : World) (hr : RowsR w no (succsF f)) (hF : Ful f) (hT : Tos f) (h0 : 0 < f.2.2.2.1.length) :
    Calls Tryd.prog 35 #[.slice no f.2.2.2.1.length nc] w fun e w' => ∃ g, e = .returned (.slice (some ⟨g, 0, none⟩) f.2.2.2.1.length f.2.2.2.1.length) ∧ RowAt w' w.heap.size 3 g f.2.2.2.1.length (ints (placesF f)) ∧ Below w.heap.size w w' := by
  obtain ⟨i3, hi3, hz3, hz4, hz5⟩ := info_parts Tryd.info3
  have HR := hide hr
  have HO := hide (fun w hr => order_any f no nc w hr hF hT h0)
  have hbl : f.2.2.2.1.length ≤ 1000000 := hF.1
  have hol := orderF_len hT h0
  obtain ⟨hnd, hnu⟩ := order_num hT h0
  have HNd := hide hnd
  have HNu := hide hnu
  have HPl := hide (placesF_to f)
  generalize orderF f = l at *
  generalize placesF f = pf at *
  generalize f.2.2.2.1.length = N at *
  clear hr hF hT h0 hnd hnu
  go_enter Tryd.func35, Tryd.ntmps35
  go_upto_region 2 with (at_make; refine wpList_make_full _ rfl _ _ 22 rfl w.heap.size 3 i3 _ 1 Tryd.underlying22 hi3 hz3 hz4 .i64 .i64 N N N rfl rfl rfl rfl (by rw [hz5]; omega) (by unfold maxLen; omega) (Nat.le_refl _) ?_; intro w1 own1 grow1; refine Hid.out ?_)
  rw [made_ints] at own1
  have R1 : Hid (RowAt w1 w.heap.size 3 w.heap.size N (ints (fillTo N 0))) := hide (by
    have e : fillTo N 0 = List.replicate N 0 := by simp [fillTo]
    rw [e]; exact own1)
  have B1 := hide (grown_b grow1)
  clear own1 grow1
  generalize hg : w.heap.size = g at *
  refine hide ?_
  go_wp2_with fail
  go_loopw [12] (fun i wr => ∃ I : Nat, I ≤ N ∧ i = .int .i64 I ∧ Hid (RowAt wr g 3 g N (ints (fillTo N I))) ∧ Hid (Below g w wr)) (fun i _ => N - (intOf i).toNat)
  case atStart => exact ⟨0, Nat.zero_le _, rfl, R1, B1⟩
  case round =>
    clear R1 B1
    obtain ⟨I, hI, rfl, HA, HW⟩ := hrel
    by_cases hit : I < N
    · have hiI : (I : Int) < N := by omega
      obtain ⟨x, hx⟩ : ∃ x, (fillTo N I)[I]? = some x := ⟨_, List.getElem?_eq_getElem (by rw [fillTo_len hI]; exact hit)⟩
      have c1 := HA.out.cell (ints_at hx)
      have z1 := HA.out.frozen I
      have HE : Hid (RowAt (wr.setCell ⟨g, I, none⟩ (.int .i64 (-1))) g 3 g N (ints (fillTo N (I + 1)))) := hide (by rw [← fillTo_set hit, ← ints_set]; exact HA.out.set I _)
      have HE2 : Hid (Below g w (wr.setCell ⟨g, I, none⟩ (.int .i64 (-1)))) := hide (HW.out.setCell (p := ⟨g, I, none⟩) (Nat.le_refl _) _)
      clear hx
      go_wp2_with fail
      go_roundw
      case rel => exact ⟨I + 1, by omega, by go_num, HE, HE2⟩
      case measure => simp [intOf]; omega
    · obtain rfl : I = N := by omega
      have HA0 : Hid (RowAt wr g 3 g I (ints (placesTo I (l.take 0)))) := hide (by have := HA.out; rw [fillTo_end] at this; exact this)
      have HRr : Hid (RowsR wr no (succsF f)) := hide (HR.out.below (by rw [hg]; exact HW.out))
      have HO1 := hide (HO.out wr HRr.out)
      have hgl : g < wr.heap.size := HA.out.lt.2
      clear HA
      go_wp2_with fail
      refine HO1.out.mono ?_; rintro e w2 ⟨u, rfl, hu, b2⟩
      have HA2 := hide (HA0.out.below b2)
      have HW2 : Hid (Below g w w2) := hide (HW.out.trans (b2.mono (by omega)))
      have HU := hide hu
      obtain ⟨uo, uc, rfl⟩ := own_len hu
      clear hu b2 HO1 HA0 HRr HW
      go_wp2_with fail
      generalize wr.heap.size = B at *
      go_loopw [22] (fun i wr => ∃ J : Nat, J ≤ l.length ∧ i = .int .i64 J ∧ Hid (RowAt wr g 3 g I (ints (placesTo I (l.take J)))) ∧ Hid (Below g w wr) ∧ Hid (wr.ownsRow B 3 1 (.slice uo l.length uc) l.length (ints l))) (fun i _ => l.length - (intOf i).toNat)
      case atStart => exact ⟨0, Nat.zero_le _, rfl, HA2, HW2, HU⟩
      case round =>
        clear HA2 HW2 HU
        obtain ⟨J, hJ, rfl, HA, HW, HU⟩ := hrel
        by_cases hjt : J < l.length
        · have hjI : (J : Int) < l.length := by omega
          obtain ⟨m, hm⟩ : ∃ m, l[J]? = some m := ⟨_, List.getElem?_eq_getElem hjt⟩
          obtain ⟨hm0, hm1⟩ := HNu.out m (List.mem_of_getElem? hm)
          obtain ⟨M, rfl⟩ : ∃ M : Nat, m = (M : Int) := ⟨m.toNat, by omega⟩
          have hMI : M < I := by omega
          have hfr := take_fresh HNd.out hm
          obtain ⟨gl, rfl, c9, _⟩ := own_cell HU.out hm
          obtain ⟨x, hx⟩ : ∃ x, (placesTo I (l.take J))[M]? = some x := ⟨_, List.getElem?_eq_getElem (by rw [placesTo_len]; exact hMI)⟩
          have c1 := HA.out.cell (ints_at hx)
          have z1 := HA.out.frozen M
          have hlj : (l.take J).length = J := by rw [List.length_take]; omega
          have HE : Hid (RowAt (wr.setCell ⟨g, M, none⟩ (.int .i64 J)) g 3 g I (ints (placesTo I (l.take (J + 1))))) := hide (by
            have e := placesTo_snoc (n := I) hfr
            rw [take_more hm, e, hlj, ← ints_set]
            exact HA.out.set M _)
          have HE2 : Hid (Below g w (wr.setCell ⟨g, M, none⟩ (.int .i64 J))) := hide (HW.out.setCell (p := ⟨g, M, none⟩) (Nat.le_refl _) _)
          have HE3 : Hid ((wr.setCell ⟨g, M, none⟩ (.int .i64 J)).ownsRow B 3 1 (.slice (some ⟨gl, 0, none⟩) l.length uc) l.length (ints l)) := hide (ownsRow_setCell_below HU.out (a := ⟨g, M, none⟩) hgl _)
          clear hx hm hfr hlj
          go_wp2_with fail
          go_roundw
          case rel => exact ⟨J + 1, by omega, by go_num, HE, HE2, HE3⟩
          case measure => simp [intOf]; omega
        · obtain rfl : J = l.length := by omega
          have HE : Hid (RowAt wr w.heap.size 3 g I (ints pf) ∧ Below w.heap.size w wr) := hide (by
            refine ⟨?_, by rw [hg]; exact HW.out⟩
            have := HA.out
            rw [List.take_length, ← HPl.out] at this
            rw [hg]; exact this)
          go_wp2_with fail
          go_ret
          exact ⟨g, rfl, HE.out.1, HE.out.2⟩
end Go.Proofs.YtfmeadbiokcboaaDoor
namespace Go.Proofs.YtfmeadbiokcboaaDoor
open Go Go.RowKit
open G (Tok Er Ins Fun)
theorem Tryd.info44 : (Tryd.prog.info? 44).map (fun i => (i.zero, i.size, i.bytes)) = some (some (.agg #[.int .i64 0, .int .i64 0]), 2, 16) := by kernel_rfl
/-- Where a block stands in the order. -/
def atF (f : Fun) (k : Int) : Int := placeL (orderF f) k
def backOf (f : Fun) (k : Nat) (l : List Int) : List (Int × Int) := if 0 ≤ atF f k then (l.filter fun m => decide (atF f m ≤ atF f k)).map fun m => ((k : Int), m) else []
def backsTo (f : Fun) (K : Nat) : List (Int × Int) := (List.range K).flatMap fun k => backOf f k (nextF f k)
def backsF (f : Fun) : List (Int × Int) := backsTo f f.2.2.2.1.length
theorem backsTo_succ (f : Fun) (K : Nat) : backsTo f (K + 1) = backsTo f K ++ backOf f K (nextF f K) := by
  unfold backsTo; rw [List.range_succ, List.flatMap_append]; simp
theorem backOf_neg {f : Fun} {k : Nat} {l : List Int} (h : ¬ 0 ≤ atF f k) : backOf f k l = [] := if_neg h
theorem backOf_yes {f : Fun} {k i : Nat} {l : List Int} {m : Int} (h : l[i]? = some m) (h0 : 0 ≤ atF f k) (hm : atF f m ≤ atF f k) : backOf f k (l.take (i + 1)) = backOf f k (l.take i) ++ [((k : Int), m)] := by
  unfold backOf; rw [take_more h, if_pos h0, if_pos h0, List.filter_append, List.map_append]; simp [hm]
theorem backOf_no {f : Fun} {k i : Nat} {l : List Int} {m : Int} (h : l[i]? = some m) (hm : ¬ atF f m ≤ atF f k) : backOf f k (l.take (i + 1)) = backOf f k (l.take i) := by
  unfold backOf; rw [take_more h]
  split
  · rw [List.filter_append, List.map_append]; simp [hm]
  · rfl
theorem backOf_len (f : Fun) (k : Nat) (l : List Int) : (backOf f k l).length ≤ l.length := by
  unfold backOf; split
  · rw [List.length_map]; exact List.length_filter_le _ _
  · simp
theorem backsTo_len {f : Fun} (hF : Ful f) : ∀ K, K ≤ f.2.2.2.1.length → (backsTo f K).length ≤ K * 1000000 := by
  intro K
  induction K with
  | zero => intro _; simp [backsTo]
  | succ K ih =>
    intro hK
    have h1 := ih (by omega)
    have h2 := backOf_len f K (nextF f K)
    have h3 := nextF_len hF (k := K) (by omega)
    rw [backsTo_succ, List.length_append]
    omega
def pairsC (l : List (Int × Int)) : List Value := l.flatMap fun p => [.int .i64 p.1, .int .i64 p.2]
/-- A list of pairs of one's own. -/
def PairsO (w : World) (l : List (Int × Int)) (v : Value) (wr : World) : Prop := wr.ownsRow w.heap.size 44 2 v l.length (pairsC l) ∧ Below w.heap.size w wr
theorem PairsO.start (w : World) : PairsO w [] (.slice none 0 0) w := ⟨World.ownsRow_nil _ _ _ _, Below.refl _ _⟩
theorem PairsO.step {w wr w2 : World} {l : List (Int × Int)} {v v' : Value} {x y : Int} {o : Obj} (h : PairsO w l v wr) (own : w2.ownsRow w.heap.size 44 2 v' (l.length + 1) (pairsC l ++ [.int .i64 x, .int .i64 y])) (hg : (wr.alloc o).grownBy w2 v.ownBlock) : PairsO w (l ++ [(x, y)]) v' w2 := by
  refine ⟨by simpa [pairsC] using own, ?_⟩
  refine Below.grown (h.2.alloc h.2.size o) hg (by simp; have := h.2.size; omega) ?_
  intro k hk
  exact (h.1.lt k hk).1
theorem PairsO.below {w wr w2 : World} {l : List (Int × Int)} {v : Value} (h : PairsO w l v wr) (b : Below wr.heap.size wr w2) : PairsO w l v w2 := ⟨own_below b _ _ _ _ _ _ h.1, below_step h.2 b⟩
theorem pair_cell {w1 : World} {a b : Value} {t : TypeId} : ∀ j u, [a, b][j]? = some u → (w1.alloc (.cells #[a, b] t)).cell? ((⟨w1.heap.size, 0, none⟩ : Addr).add j) = some u := by
  intro j u hj
  match j, hj with
  | 0, hj => simp at hj; subst hj; simp [Addr.add]
  | 1, hj => simp at hj; subst hj; simp [Addr.add]
theorem pair_one {a b : Int} : ∀ u ∈ [Value.int .i64 a, Value.int .i64 b], u.oneCell' = true := by
  intro u hu
  simp only [List.mem_cons, List.not_mem_nil, or_false] at hu
  rcases hu with rfl | rfl <;> rfl
theorem placesF_at {f : Fun} {k : Nat} (h : k < f.2.2.2.1.length) : (placesF f)[k]? = some (atF f k) := by
  unfold placesF; rw [List.getElem?_map, List.getElem?_range h]; rfl
set_option maxHeartbeats 4000000 in
set_option maxRecDepth 20000 in
theorem rbacks_try (nm : List UInt8) (ps : List Int) (rt pl : Int) (bl : List (List Ins)) (ao bo : Option Addr) (c cb : Nat) (w : World)
    (hv : FunV w (nm, ps, rt, bl, pl) (.agg #[.string (bs nm), .slice ao ps.length c, .int .i64 rt, .slice bo bl.length cb, .int .i64 pl])) (hF : Ful (nm, ps, rt, bl, pl)) (hT : Tos (nm, ps, rt, bl, pl)) (h0 : 0 < bl.length) :
    Calls Tryd.prog 23 #[.agg #[.string (bs nm), .slice ao ps.length c, .int .i64 rt, .slice bo bl.length cb, .int .i64 pl]] w fun e w' => ∃ u, e = .returned u ∧ w'.ownsRow w.heap.size 44 2 u (backsF (nm, ps, rt, bl, pl)).length (pairsC (backsF (nm, ps, rt, bl, pl))) ∧ Below w.heap.size w w' := by
  obtain ⟨i0, hi0, hz0, hz1, hz2⟩ := info_parts Tryd.info44
  have b0 := below_box w (.cells #[.string (bs nm), .slice ao ps.length c, .int .i64 rt, .slice bo bl.length cb, .int .i64 pl] 25)
  have X0 := hide (L5.Box.new w [.string (bs nm), .slice ao ps.length c, .int .i64 rt, .slice bo bl.length cb, .int .i64 pl] 25)
  have HV := hide (hv.below b0)
  have HP := hide (rplaces_any (nm, ps, rt, bl, pl) _ _ (hv.below b0) hF hT h0)
  have B0 := hide b0
  have hbl : bl.length ≤ 1000000 := hF.1
  have HFu := hide hF
  have HT := hide hT
  clear hv hF hT h0 b0
  go_enter Tryd.func23, Tryd.ntmps23
  go_upto_region 1 with fail
  show Code.wp _ _ _ _ (w.alloc (.cells #[.string (bs nm), .slice ao ps.length c, .int .i64 rt, .slice bo bl.length cb, .int .i64 pl] 25))
  replace X0 : Hid (L5.Box (w.alloc (.cells #[.string (bs nm), .slice ao ps.length c, .int .i64 rt, .slice bo bl.length cb, .int .i64 pl] 25)) w.heap.size [.string (bs nm), .slice ao ps.length c, .int .i64 rt, .slice bo bl.length cb, .int .i64 pl]) := X0
  generalize w.alloc (.cells #[.string (bs nm), .slice ao ps.length c, .int .i64 rt, .slice bo bl.length cb, .int .i64 pl] 25) = W at *
  obtain ⟨x0, x1, x2, x3, x4⟩ : _ ∧ _ ∧ _ ∧ _ ∧ _ := ⟨X0.out.2 0 _ rfl, X0.out.2 1 _ rfl, X0.out.2 2 _ rfl, X0.out.2 3 _ rfl, X0.out.2 4 _ rfl⟩
  go_wp2_with fail
  refine HP.out.mono ?_; rintro e w1 ⟨u, rfl, hu, b1⟩
  have HU := hide hu
  have B1 := hide b1
  obtain ⟨uo, uc, rfl⟩ := own_len hu
  have hnn : (placesF (nm, ps, rt, bl, pl)).length = bl.length := placesF_len _
  have HUc : Hid (∀ j : Nat, j < bl.length → ∃ g, uo = some ⟨g, 0, none⟩ ∧ g < w1.heap.size ∧ w1.cell? ⟨g, j, none⟩ = some (.int .i64 (atF (nm, ps, rt, bl, pl) j))) := hide (by
    intro j hj
    rcases own_view hu with ⟨e0, hn⟩ | ⟨gl, capl, e0, l1, l2, l3, l4, l5, l6⟩
    · omega
    injection e0 with e1 e2 e3
    exact ⟨gl, e1, l4, l5 j _ (ints_at (placesF_at (f := (nm, ps, rt, bl, pl)) hj))⟩)
  rw [hnn] at HU
  have HBL := hide (fun K (hK : K ≤ bl.length) => backsTo_len HFu.out K hK)
  clear hu b1 HP x0 x1 x2 x3 x4
  go_wp2_with fail
  go_loopw [4, 5] (fun v i wr => ∃ K : Nat, K ≤ bl.length ∧ i = .int .i64 K ∧ Hid (PairsO w1 (backsTo (nm, ps, rt, bl, pl) K) v wr)) (fun _ i _ => bl.length - (intOf i).toNat)
  case atStart => exact ⟨0, Nat.zero_le _, rfl, hide (PairsO.start _)⟩
  case round =>
    obtain ⟨K, hK, rfl, HG⟩ := hrel
    have HWr := hide (below_step B1.out HG.out.2)
    obtain ⟨x0, x1, x2, x3, x4⟩ : _ ∧ _ ∧ _ ∧ _ ∧ _ := ⟨(X0.out.below HWr.out).2 0 _ rfl, (X0.out.below HWr.out).2 1 _ rfl, (X0.out.below HWr.out).2 2 _ rfl, (X0.out.below HWr.out).2 3 _ rfl, (X0.out.below HWr.out).2 4 _ rfl⟩
    by_cases hkt : K < bl.length
    · have hkI : (K : Int) < bl.length := by omega
      have hbk := HBL.out K hK
      have HN := hide (next_any (nm, ps, rt, bl, pl) K _ wr (HV.out.below HWr.out) HFu.out hkt)
      have hll : (nextF (nm, ps, rt, bl, pl) K).length ≤ 1000000 := nextF_len HFu.out hkt
      have HNu : Hid (Num bl.length (nextF (nm, ps, rt, bl, pl) K)) := hide (HT.out K)
      have HSc := hide (backsTo_succ (nm, ps, rt, bl, pl) K)
      obtain ⟨g, rfl, hgl, hgk⟩ := HUc.out K hkt
      generalize nextF (nm, ps, rt, bl, pl) K = l at *
      go_wp2_with fail
      refine HN.out.mono ?_; rintro e w2 ⟨u, rfl, hu, b2⟩
      have HG2 := hide (HG.out.below b2)
      obtain ⟨lo, lc, rfl, l1, l2, l3⟩ := ints_of hu
      have HL := hide (own_base hu HG.out.2.size)
      clear x0 x1 x2 x3 x4 hu l1 l2 l3
      go_wp2_with fail
      have HG3 : Hid (PairsO w1 (backsTo (nm, ps, rt, bl, pl) K ++ backOf (nm, ps, rt, bl, pl) K (l.take 0)) _ w2 ∧ Below w2.heap.size w2 w2) := hide ⟨by simpa [backOf] using HG2.out, Below.refl _ _⟩
      go_loopw [4, 7] (fun v i wq => ∃ I : Nat, I ≤ l.length ∧ i = .int .i64 I ∧ Hid (PairsO w1 (backsTo (nm, ps, rt, bl, pl) K ++ backOf (nm, ps, rt, bl, pl) K (l.take I)) v wq ∧ wq.ownsRow w1.heap.size 3 1 (.slice lo l.length lc) l.length (ints l))) (fun _ i _ => l.length - (intOf i).toNat)
      case atStart => exact ⟨0, Nat.zero_le _, rfl, hide ⟨HG3.out.1, HL.out⟩⟩
      case round =>
        clear HG3 HG2 HG HN
        obtain ⟨I, hI, rfl, HG⟩ := hrel
        have a1 := (HG.out.1.2.cell (p := ⟨g, K, none⟩) hgl).trans hgk
        by_cases hat : 0 ≤ atF (nm, ps, rt, bl, pl) K
        · by_cases hit : I < l.length
          · obtain ⟨m, hm⟩ : ∃ m, l[I]? = some m := ⟨l[I], List.getElem?_eq_getElem hit⟩
            have hiI : (I : Int) < l.length := by omega
            obtain ⟨hm0, hm1⟩ := HNu.out m (List.mem_of_getElem? hm)
            obtain ⟨M, rfl⟩ : ∃ M : Nat, m = (M : Int) := ⟨m.toNat, by omega⟩
            have hMl : M < bl.length := by omega
            obtain ⟨g', e0, _, hgm⟩ := HUc.out M hMl
            injection e0 with e0
            injection e0 with e0
            subst e0
            have a2 := (HG.out.1.2.cell (p := ⟨g, M, none⟩) hgl).trans hgm
            rcases own_view HG.out.2 with ⟨e0, hn⟩ | ⟨gl, capl, e0, l1, l2, l3, l4, l5, l6⟩
            · omega
            injection e0 with e1 e2 e3
            subst e1 e3
            have a3 := l5 I _ (ints_at hm)
            have hgw : g < wr.heap.size := Nat.lt_of_lt_of_le hgl HG.out.1.2.size
            have f1 := fun x => ((L5.grewTo_below wr x).cell (p := ⟨g, K, none⟩) hgw).trans a1
            have f2 := fun x => ((L5.grewTo_below wr x).cell (p := ⟨g, M, none⟩) hgw).trans a2
            have f3 := fun x => ((L5.grewTo_below wr x).cell (p := ⟨gl, I, none⟩) l4).trans a3
            have hyes := fun h => hide (backOf_yes (f := (nm, ps, rt, bl, pl)) (k := K) hm hat h)
            have hno := fun h => hide (backOf_no (f := (nm, ps, rt, bl, pl)) (k := K) hm h)
            have hbl2 := backOf_len (nm, ps, rt, bl, pl) K (l.take I)
            have hbl3 : (backOf (nm, ps, rt, bl, pl) K (l.take I)).length ≤ 1000000 := by rw [List.length_take] at hbl2; omega
            have hlen : (backsTo (nm, ps, rt, bl, pl) K ++ backOf (nm, ps, rt, bl, pl) K (l.take I)).length ≤ 1000001000000 := by rw [List.length_append]; omega
            clear l1 l2 l3 l5 l6 hm e2 hgm hgk HUc hbl2 hbl3
            generalize atF (nm, ps, rt, bl, pl) (K : Int) = aK at *
            generalize atF (nm, ps, rt, bl, pl) (M : Int) = aM at *
            go_wp2_with fail
            refine L5.region_grew (by kernel_rfl) (by kernel_rfl) ?_
            repeat (go_big_quiet_step (fail))
            refine wpQuiet_nil ?_
            rintro _ ⟨x, rfl⟩
            have c3 := f3 x
            have HX := hide (L5.grewTo_below wr x)
            clear f1 f2 f3 a1 a2 a3
            generalize L5.grewTo wr x = w8 at *
            have HG8 : Hid (PairsO w1 (backsTo (nm, ps, rt, bl, pl) K ++ backOf (nm, ps, rt, bl, pl) K (l.take I)) _ w8 ∧ w8.ownsRow w1.heap.size 3 1 _ l.length (ints l)) := hide ⟨HG.out.1.below HX.out, own_below HX.out _ _ _ _ _ _ HG.out.2⟩
            have hs8 := HG8.out.1.2.size
            by_cases hle : aM ≤ aK
            · have HY := hyes hle
              clear hyes hno
              go_wp2_with (at_builtin; refine wpList_append_own _ rfl (.tmp 45) (.tmp 52) 42 rfl w1.heap.size 44 i0 _ 2 16 Tryd.underlying42 hi0 hz0 hz1 hz2 rfl (by decide) _ _ _ rfl (HG8.out.1.1.alloc _) ⟨w8.heap.size, 0, none⟩ 1 1 [.int .i64 K, .int .i64 M] rfl rfl pair_cell pair_one (by unfold maxLen; omega) (by omega) (by simp; omega) ?_; intro v9 w9 own9 grow9 _; refine Hid.out ?_)
              have HE : Hid (PairsO w1 (backsTo (nm, ps, rt, bl, pl) K ++ backOf (nm, ps, rt, bl, pl) K (l.take (I + 1))) v9 w9 ∧ w9.ownsRow w1.heap.size 3 1 _ l.length (ints l)) := hide ⟨by rw [HY.out, ← List.append_assoc]; exact PairsO.step HG8.out.1 own9 grow9, own_other grow9 (HG8.out.1.1.alloc _) (by decide) _ _ _ (HG8.out.2.alloc _)⟩
              clear own9 grow9
              refine hide ?_
              go_wp2_with fail
              go_roundw
              case rel => exact ⟨I + 1, by omega, by go_num, HE⟩
              case measure => simp [intOf]; omega
            · have HY := hno (by omega)
              have HE : Hid (PairsO w1 (backsTo (nm, ps, rt, bl, pl) K ++ backOf (nm, ps, rt, bl, pl) K (l.take (I + 1))) _ w8 ∧ w8.ownsRow w1.heap.size 3 1 _ l.length (ints l)) := hide (by rw [HY.out]; exact HG8.out)
              clear hyes hno
              go_wp2_with fail
              go_roundw
              case rel => exact ⟨I + 1, by omega, by go_num, HE⟩
              case measure => simp [intOf]; omega
          · obtain rfl : I = l.length := by omega
            have HE : Hid (PairsO w1 (backsTo (nm, ps, rt, bl, pl) (K + 1)) _ wr) := hide (by have := HG.out.1; rw [List.take_length] at this; rw [HSc.out]; exact this)
            generalize atF (nm, ps, rt, bl, pl) (K : Int) = aK at *
            go_wp2_with fail
            go_roundw
            case rel => exact ⟨K + 1, by omega, by go_num, HE⟩
            case measure => simp [intOf]; omega
        · have HE : Hid (PairsO w1 (backsTo (nm, ps, rt, bl, pl) (K + 1)) _ wr) := hide (by have := HG.out.1; rw [backOf_neg hat] at this; rw [HSc.out, backOf_neg hat]; exact this)
          generalize atF (nm, ps, rt, bl, pl) (K : Int) = aK at *
          go_wp2_with fail
          all_goals
            go_roundw
            case rel => exact ⟨K + 1, by omega, by go_num, HE⟩
            case measure => simp [intOf]; omega
    · obtain rfl : K = bl.length := by omega
      have HE : Hid (PairsO w1 (backsF (nm, ps, rt, bl, pl)) _ wr) := hide HG.out
      have HF := hide (own_base HE.out.1 (Nat.le_trans B0.out.size B1.out.size))
      go_wp2_with fail
      go_ret
      exact ⟨_, rfl, HF.out, below_step B0.out (below_step B1.out HE.out.2)⟩
end Go.Proofs.YtfmeadbiokcboaaDoor
namespace Go.Proofs.YtfmeadbiokcboaaDoor
open Go Go.RowKit
open G (Tok Er Ins Fun)
set_option maxHeartbeats 4000000 in
set_option maxRecDepth 20000 in
theorem placesP_try (nm : List UInt8) (ps : List Int) (rt pl : Int) (bl : List (List Ins)) (ao bo : Option Addr) (c cb : Nat) (w : World)
    (hv : FunV w (nm, ps, rt, bl, pl) (.agg #[.string (bs nm), .slice ao ps.length c, .int .i64 rt, .slice bo bl.length cb, .int .i64 pl])) (hF : Ful (nm, ps, rt, bl, pl)) (hT : Tos (nm, ps, rt, bl, pl)) (h0 : 0 < bl.length) :
    Calls Tryd.prog 20 #[.agg #[.string (bs nm), .slice ao ps.length c, .int .i64 rt, .slice bo bl.length cb, .int .i64 pl]] w fun e w' => ∃ g, e = .returned (.slice (some ⟨g, 0, none⟩) bl.length bl.length) ∧ RowAt w' w.heap.size 3 g bl.length (ints (placesF (nm, ps, rt, bl, pl))) ∧ Below w.heap.size w w' := by
  have b0 := below_box w (.cells #[.string (bs nm), .slice ao ps.length c, .int .i64 rt, .slice bo bl.length cb, .int .i64 pl] 25)
  have X0 := hide (L5.Box.new w [.string (bs nm), .slice ao ps.length c, .int .i64 rt, .slice bo bl.length cb, .int .i64 pl] 25)
  have HC := hide (succs_any (nm, ps, rt, bl, pl) _ _ (hv.below b0) hF hT)
  have HO := hide (fun no nc w hr => places_try (nm, ps, rt, bl, pl) no nc w hr hF hT h0)
  have B0 := hide b0
  clear b0 hv hF hT h0
  go_enter Tryd.func20, Tryd.ntmps20
  go_upto_region 1 with fail
  show Code.wp _ _ _ _ (w.alloc (.cells #[.string (bs nm), .slice ao ps.length c, .int .i64 rt, .slice bo bl.length cb, .int .i64 pl] 25))
  replace X0 : Hid (L5.Box (w.alloc (.cells #[.string (bs nm), .slice ao ps.length c, .int .i64 rt, .slice bo bl.length cb, .int .i64 pl] 25)) w.heap.size [.string (bs nm), .slice ao ps.length c, .int .i64 rt, .slice bo bl.length cb, .int .i64 pl]) := X0
  generalize w.alloc (.cells #[.string (bs nm), .slice ao ps.length c, .int .i64 rt, .slice bo bl.length cb, .int .i64 pl] 25) = W at *
  obtain ⟨x0, x1, x2, x3, x4⟩ : _ ∧ _ ∧ _ ∧ _ ∧ _ := ⟨X0.out.2 0 _ rfl, X0.out.2 1 _ rfl, X0.out.2 2 _ rfl, X0.out.2 3 _ rfl, X0.out.2 4 _ rfl⟩
  go_wp2_with fail
  refine HC.out.mono ?_; rintro e w1 ⟨v, rfl, hr, b1⟩
  obtain ⟨no, nc, rfl, hrr⟩ := succs_read hr
  have HO1 := hide (HO.out no nc w1 hrr)
  have B1 := hide b1
  clear x0 x1 x2 x3 x4 hr hrr b1 HC HO
  go_wp2_with fail
  refine HO1.out.mono ?_; rintro e w2 ⟨g, rfl, hu, b2⟩
  have HE := hide (And.intro (hu.base (Nat.le_trans B0.out.size B1.out.size)) (below_step B0.out (below_step B1.out b2)))
  clear hu b2 HO1
  go_wp2_with fail
  go_ret
  exact ⟨g, rfl, HE.out.1, HE.out.2⟩
theorem placesP_any (f : Fun) (v : Value) (w : World) (hv : FunV w f v) (hF : Ful f) (hT : Tos f) (h0 : 0 < f.2.2.2.1.length) :
    Calls Tryd.prog 20 #[v] w fun e w' => ∃ g, e = .returned (.slice (some ⟨g, 0, none⟩) f.2.2.2.1.length f.2.2.2.1.length) ∧ RowAt w' w.heap.size 3 g f.2.2.2.1.length (ints (placesF f)) ∧ Below w.heap.size w w' := by
  obtain ⟨nm, ps, rt, bl, pl⟩ := f
  have hv2 := hv
  obtain ⟨vp, vb, rfl, ⟨ao, c, rfl, h1, _⟩, h2⟩ := hv
  obtain ⟨bo, cb, rfl, _⟩ := h2
  exact placesP_try nm ps rt pl bl ao bo c cb w hv2 hF hT h0
theorem atF_low {f : Fun} {k : Int} (h : ¬ 0 ≤ atF f k) : atF f k = -1 := by have := placeL_ge (orderF f) k; unfold atF at *; omega
set_option maxHeartbeats 8000000 in
set_option maxRecDepth 20000 in
theorem backsP_try (nm : List UInt8) (ps : List Int) (rt pl : Int) (bl : List (List Ins)) (ao bo : Option Addr) (c cb : Nat) (w : World)
    (hv : FunV w (nm, ps, rt, bl, pl) (.agg #[.string (bs nm), .slice ao ps.length c, .int .i64 rt, .slice bo bl.length cb, .int .i64 pl])) (hF : Ful (nm, ps, rt, bl, pl)) (hT : Tos (nm, ps, rt, bl, pl)) (h0 : 0 < bl.length) :
    Calls Tryd.prog 22 #[.agg #[.string (bs nm), .slice ao ps.length c, .int .i64 rt, .slice bo bl.length cb, .int .i64 pl]] w fun e w' => ∃ u, e = .returned u ∧ w'.ownsRow w.heap.size 44 2 u (backsF (nm, ps, rt, bl, pl)).length (pairsC (backsF (nm, ps, rt, bl, pl))) ∧ Below w.heap.size w w' := by
  obtain ⟨i0, hi0, hz0, hz1, hz2⟩ := info_parts Tryd.info44
  have b0 := below_box w (.cells #[.string (bs nm), .slice ao ps.length c, .int .i64 rt, .slice bo bl.length cb, .int .i64 pl] 25)
  have X0 := hide (L5.Box.new w [.string (bs nm), .slice ao ps.length c, .int .i64 rt, .slice bo bl.length cb, .int .i64 pl] 25)
  have HC := hide (succs_any (nm, ps, rt, bl, pl) _ _ (hv.below b0) hF hT)
  have HO := hide (fun no nc w hr => places_try (nm, ps, rt, bl, pl) no nc w hr hF hT h0)
  have B0 := hide b0
  have hbl : bl.length ≤ 1000000 := hF.1
  have HFu := hide hF
  have HT := hide hT
  have HBL := hide (fun K (hK : K ≤ bl.length) => backsTo_len HFu.out K hK)
  clear b0 hv hF hT h0
  go_enter Tryd.func22, Tryd.ntmps22
  go_upto_region 1 with fail
  show Code.wp _ _ _ _ (w.alloc (.cells #[.string (bs nm), .slice ao ps.length c, .int .i64 rt, .slice bo bl.length cb, .int .i64 pl] 25))
  replace X0 : Hid (L5.Box (w.alloc (.cells #[.string (bs nm), .slice ao ps.length c, .int .i64 rt, .slice bo bl.length cb, .int .i64 pl] 25)) w.heap.size [.string (bs nm), .slice ao ps.length c, .int .i64 rt, .slice bo bl.length cb, .int .i64 pl]) := X0
  generalize w.alloc (.cells #[.string (bs nm), .slice ao ps.length c, .int .i64 rt, .slice bo bl.length cb, .int .i64 pl] 25) = W at *
  obtain ⟨x0, x1, x2, x3, x4⟩ : _ ∧ _ ∧ _ ∧ _ ∧ _ := ⟨X0.out.2 0 _ rfl, X0.out.2 1 _ rfl, X0.out.2 2 _ rfl, X0.out.2 3 _ rfl, X0.out.2 4 _ rfl⟩
  go_wp2_with fail
  refine HC.out.mono ?_; rintro e w1 ⟨v, rfl, hr, b1⟩
  obtain ⟨no, nc, rfl, hrr⟩ := succs_read hr
  have HO1 := hide (HO.out no nc w1 hrr)
  have HRr := hide hrr
  have B1 := hide b1
  clear x0 x1 x2 x3 x4 hr hrr b1 HC HO
  go_wp2_with fail
  refine HO1.out.mono ?_; rintro e w2 ⟨g, rfl, hu, b2⟩
  have HU := hide hu
  have HB2 := hide (below_step B0.out (below_step B1.out b2))
  have HS2 := hide (HRr.out.below b2)
  have hbw : w.heap.size ≤ w2.heap.size := HB2.out.size
  have hgl : g < w2.heap.size := hu.lt.2
  have HUc : Hid (∀ j : Nat, j < bl.length → w2.cell? ⟨g, j, none⟩ = some (.int .i64 (atF (nm, ps, rt, bl, pl) j))) := hide (fun j hj => hu.cell (ints_at (placesF_at (f := (nm, ps, rt, bl, pl)) hj)))
  clear hu b2 HO1 HRr B1
  go_wp2_with fail
  go_loopw [5, 16] (fun v i wr => ∃ K : Nat, K ≤ bl.length ∧ i = .int .i64 K ∧ Hid (PairsO w2 (backsTo (nm, ps, rt, bl, pl) K) v wr)) (fun _ i _ => bl.length - (intOf i).toNat)
  case atStart => exact ⟨0, Nat.zero_le _, rfl, hide (PairsO.start _)⟩
  case round =>
    obtain ⟨K, hK, rfl, HG⟩ := hrel
    by_cases hkt : K < bl.length
    · have hkI : (K : Int) < bl.length := by omega
      have hbk := HBL.out K hK
      have hll : (nextF (nm, ps, rt, bl, pl) K).length ≤ 1000000 := nextF_len HFu.out hkt
      have HNu : Hid (Num bl.length (nextF (nm, ps, rt, bl, pl) K)) := hide (HT.out K)
      have HSc := hide (backsTo_succ (nm, ps, rt, bl, pl) K)
      have hgk := HUc.out K hkt
      rcases HS2.out with e0 | ⟨sb, so, rfl, s1, s2⟩
      · have := succsF_len (nm, ps, rt, bl, pl)
        rw [e0] at this
        simp at this
        omega
      obtain ⟨lv, s3, lo, lc, rfl, s4, s5, s6⟩ := s2 K _ (succsF_at (f := (nm, ps, rt, bl, pl)) hkt)
      have c1 := (HG.out.2.cell (p := ⟨sb, so + K, none⟩) s1).trans s3
      have HS4 := hide s4
      generalize nextF (nm, ps, rt, bl, pl) K = l at *
      clear s2 s3 s4
      go_wp2_with fail
      clear c1
      have HG3 : Hid (PairsO w2 (backsTo (nm, ps, rt, bl, pl) K ++ backOf (nm, ps, rt, bl, pl) K (l.take 0)) _ wr) := hide (by simpa [backOf] using HG.out)
      go_loopw [5, 23] (fun v i wq => ∃ I : Nat, I ≤ l.length ∧ i = .int .i64 I ∧ Hid (PairsO w2 (backsTo (nm, ps, rt, bl, pl) K ++ backOf (nm, ps, rt, bl, pl) K (l.take I)) v wq)) (fun _ i _ => l.length - (intOf i).toNat)
      case atStart => exact ⟨0, Nat.zero_le _, rfl, HG3⟩
      case round =>
        clear HG3 HG
        obtain ⟨I, hI, rfl, HG⟩ := hrel
        by_cases hit : I < l.length
        · obtain ⟨m, hm⟩ : ∃ m, l[I]? = some m := ⟨l[I], List.getElem?_eq_getElem hit⟩
          have hiI : (I : Int) < l.length := by omega
          obtain ⟨hm0, hm1⟩ := HNu.out m (List.mem_of_getElem? hm)
          obtain ⟨M, rfl⟩ : ∃ M : Nat, m = (M : Int) := ⟨m.toNat, by omega⟩
          have hMl : M < bl.length := by omega
          have a1 := (HG.out.2.cell (p := ⟨g, K, none⟩) hgl).trans hgk
          have a2 := (HG.out.2.cell (p := ⟨g, M, none⟩) hgl).trans (HUc.out M hMl)
          rcases HS4.out with e0 | ⟨tb, to2, rfl, t1, t2⟩
          · subst e0; simp at hit
          have a3 := (HG.out.2.cell (p := ⟨tb, to2 + I, none⟩) t1).trans (t2 I _ hm)
          have hyes := fun h0 h => hide (backOf_yes (f := (nm, ps, rt, bl, pl)) (k := K) hm h0 h)
          have hno := fun h => hide (backOf_no (f := (nm, ps, rt, bl, pl)) (k := K) hm h)
          have hneg := fun h => hide (backOf_neg (f := (nm, ps, rt, bl, pl)) (k := K) (l := l.take (I + 1)) h)
          have hneg2 := fun h => hide (backOf_neg (f := (nm, ps, rt, bl, pl)) (k := K) (l := l.take I) h)
          have hlow := fun h => hide (atF_low (f := (nm, ps, rt, bl, pl)) (k := (K : Int)) h)
          have hbl2 := backOf_len (nm, ps, rt, bl, pl) K (l.take I)
          have hbl3 : (backOf (nm, ps, rt, bl, pl) K (l.take I)).length ≤ 1000000 := by rw [List.length_take] at hbl2; omega
          have hlen : (backsTo (nm, ps, rt, bl, pl) K ++ backOf (nm, ps, rt, bl, pl) K (l.take I)).length ≤ 1000001000000 := by rw [List.length_append]; omega
          have hgw : g < wr.heap.size := Nat.lt_of_lt_of_le hgl HG.out.2.size
          clear t2 hm hbl2 hbl3
          generalize atF (nm, ps, rt, bl, pl) (K : Int) = aK at *
          generalize atF (nm, ps, rt, bl, pl) (M : Int) = aM at *
          have f1 := fun x => ((L5.grewTo_below wr x).cell (p := ⟨g, K, none⟩) hgw).trans a1
          have f2 := fun x => ((L5.grewTo_below wr x).cell (p := ⟨g, M, none⟩) hgw).trans a2
          by_cases hat : 0 ≤ aK
          · have hne : (aK != -1) = true := by simp; omega
            go_wp2_with fail
            refine L5.region_grew (by kernel_rfl) (by kernel_rfl) ?_
            repeat (go_big_quiet_step (fail))
            refine wpQuiet_nil ?_
            rintro _ ⟨x, rfl⟩
            have HX := hide (L5.grewTo_below wr x)
            clear f1 f2 a1 a2 a3
            generalize L5.grewTo wr x = w8 at *
            have HG8 := hide (HG.out.below HX.out)
            have hs8 := HG8.out.2.size
            by_cases hle : aM ≤ aK
            · have HY := hyes hat hle
              clear hyes hno hneg hneg2 hlow
              go_wp2_with (at_builtin; refine wpList_append_own _ rfl (.tmp 43) (.tmp 47) 42 rfl w2.heap.size 44 i0 _ 2 16 Tryd.underlying42 hi0 hz0 hz1 hz2 rfl (by decide) _ _ _ rfl (HG8.out.1.alloc _) ⟨w8.heap.size, 0, none⟩ 1 1 [.int .i64 K, .int .i64 M] rfl rfl pair_cell pair_one (by unfold maxLen; omega) (by omega) (by simp; omega) ?_; intro v9 w9 own9 grow9 _; refine Hid.out ?_)
              have HE : Hid (PairsO w2 (backsTo (nm, ps, rt, bl, pl) K ++ backOf (nm, ps, rt, bl, pl) K (l.take (I + 1))) v9 w9) := hide (by rw [HY.out, ← List.append_assoc]; exact PairsO.step HG8.out own9 grow9)
              clear own9 grow9
              refine hide ?_
              go_wp2_with fail
              go_roundw
              case rel => exact ⟨I + 1, by omega, by go_num, HE⟩
              case measure => simp [intOf]; omega
            · have HY := hno (by omega)
              have HE : Hid (PairsO w2 (backsTo (nm, ps, rt, bl, pl) K ++ backOf (nm, ps, rt, bl, pl) K (l.take (I + 1))) _ w8) := hide (by rw [HY.out]; exact HG8.out)
              clear hyes hno hneg hneg2 hlow
              go_wp2_with fail
              go_roundw
              case rel => exact ⟨I + 1, by omega, by go_num, HE⟩
              case measure => simp [intOf]; omega
          · have hne : (aK != -1) = false := by have := (hlow hat).out; simp [this]
            have HE0 : Hid (backOf (nm, ps, rt, bl, pl) K (l.take (I + 1)) = backOf (nm, ps, rt, bl, pl) K (l.take I)) := hide (by rw [(hneg hat).out, (hneg2 hat).out])
            clear hyes hno hneg hneg2 hlow
            go_wp2_with fail
            refine L5.region_grew (by kernel_rfl) (by kernel_rfl) ?_
            repeat (go_big_quiet_step (fail))
            refine wpQuiet_nil ?_
            rintro _ ⟨x, rfl⟩
            have HX := hide (L5.grewTo_below wr x)
            clear f1 f2 a1 a2 a3
            generalize L5.grewTo wr x = w8 at *
            have HE : Hid (PairsO w2 (backsTo (nm, ps, rt, bl, pl) K ++ backOf (nm, ps, rt, bl, pl) K (l.take (I + 1))) _ w8) := hide (by rw [HE0.out]; exact HG.out.below HX.out)
            go_wp2_with fail
            go_roundw
            case rel => exact ⟨I + 1, by omega, by go_num, HE⟩
            case measure => simp [intOf]; omega
        · obtain rfl : I = l.length := by omega
          have HE : Hid (PairsO w2 (backsTo (nm, ps, rt, bl, pl) (K + 1)) _ wr) := hide (by have := HG.out; rw [List.take_length] at this; rw [HSc.out]; exact this)
          go_wp2_with fail
          go_roundw
          case rel => exact ⟨K + 1, by omega, by go_num, HE⟩
          case measure => simp [intOf]; omega
    · obtain rfl : K = bl.length := by omega
      have HE : Hid (PairsO w2 (backsF (nm, ps, rt, bl, pl)) _ wr) := hide HG.out
      have HF := hide (own_base HE.out.1 hbw)
      go_wp2_with fail
      go_ret
      exact ⟨_, rfl, HF.out, below_step HB2.out HE.out.2⟩
theorem backsP_any (f : Fun) (v : Value) (w : World) (hv : FunV w f v) (hF : Ful f) (hT : Tos f) (h0 : 0 < f.2.2.2.1.length) :
    Calls Tryd.prog 22 #[v] w fun e w' => ∃ u, e = .returned u ∧ w'.ownsRow w.heap.size 44 2 u (backsF f).length (pairsC (backsF f)) ∧ Below w.heap.size w w' := by
  obtain ⟨nm, ps, rt, bl, pl⟩ := f
  have hv2 := hv
  obtain ⟨vp, vb, rfl, ⟨ao, c, rfl, h1, _⟩, h2⟩ := hv
  obtain ⟨bo, cb, rfl, _⟩ := h2
  exact backsP_try nm ps rt pl bl ao bo c cb w hv2 hF hT h0
end Go.Proofs.YtfmeadbiokcboaaDoor
