/- Layer 8, the program: which blocks follow each block. -/
import Derived.Test.YtmiplohoclckcaaGreatLtAI
import Derived.Test.YtmiplohoclckcaaGreatLtAJ
namespace Go.Proofs.YtmiplohoclckcaaGreat
open Go Go.RowKit
open G (Tok Er Ins Fun)
set_option maxHeartbeats 4000000 in
set_option maxRecDepth 20000 in
theorem labels_any (b : List Ins) (x : Ins) (aok : Option Addr) (capk : Nat) (W w : World) (hb : BlkR W b (.slice aok b.length capk)) (bel : Below W.heap.size W w) (hx : b[b.length - 1]? = some x) :
    Calls Tryz.prog 64 #[.slice aok b.length capk] w fun e w' => (∃ v, e = .returned v ∧ IntsV W x.2.2.2.2.2.1 v) ∧ w' = w := by
  obtain ⟨_, _, e', m1, m2, kk⟩ := hb
  injection e' with e1 e2 e4
  subst e1 e4
  have hjt : b.length - 1 < b.length := (List.getElem?_eq_some_iff.1 hx).1
  rcases kk with kk | ⟨gi, oi, rfl, kk⟩
  · subst kk; simp at hjt
  obtain ⟨ai, ti, ca, ct, hv, r0, r1, r2, r3, r4, r5, r6, r7⟩ := (kk (b.length - 1) _ hx).val
  have hgi : gi < W.heap.size := (kk (b.length - 1) _ hx).1
  replace r5 := (bel.cell (p := ⟨gi, oi + (b.length - 1) * 8 + 5, none⟩) hgi).trans r5
  have HV : Hid (IntsV W x.2.2.2.2.2.1 (.slice ti x.2.2.2.2.2.1.length ct)) := hide (by
    obtain ⟨a1, t1, c1, c2, e, s1, s2, s3, s4, s5, s6⟩ := hv
    injection e with e
    have e2 := congrArg (fun a => a[5]?) e
    simp at e2
    rw [e2.1, e2.2]; exact ⟨t1, c2, rfl, s2, s5, s6⟩)
  obtain ⟨J, hJ⟩ : ∃ J, J = b.length - 1 := ⟨_, rfl⟩
  rw [← hJ] at r5
  have hJI : (b.length : Int) - 1 = (J : Int) := by omega
  have hJl : (J : Int) < b.length := by omega
  unfold maxLen at m2
  have hb0 : ((b.length : Int) == 0) = false := beq_eq_false_iff_ne.2 (by omega)
  clear hv kk hx r0 r1 r2 r3 r4 r6 r7 hJ e2 bel
  go_enter Tryz.func64, Tryz.ntmps64
  go_wp2_with fail
  go_ret
  exact ⟨⟨_, rfl, HV.out⟩, rfl⟩
theorem hasL_once (l : List Int) (n : Int) : hasL (onceL l) n = hasL l n := by
  have key : ∀ (l acc : List Int), hasL (l.foldl addL acc) n = (hasL acc n || hasL l n) := by
    intro l
    induction l with
    | nil => intro acc; simp [hasL]
    | cons m l ih =>
      intro acc
      rw [List.foldl_cons, ih]
      have e : hasL (m :: l) n = (decide (m = n) || hasL l n) := rfl
      cases h : hasL acc m with
      | true =>
        rw [addL_yes h, e]
        by_cases hm : m = n
        · subst hm; rw [h]; simp
        · simp [hm]
      | false => rw [addL_no h, hasL_snoc, e, Bool.or_assoc]
  simpa [onceL, hasL] using key l []
/-- The lists of the blocks ahead of one, its own so far, and none behind it. -/
def rowsIn (f : Fun) (K : Nat) (acc : List Int) : List (List Int) := (succsF f).take K ++ acc :: List.replicate (f.2.2.2.1.length - K - 1) []
def rowsTo (f : Fun) (K : Nat) : List (List Int) := (succsF f).take K ++ List.replicate (f.2.2.2.1.length - K) []
theorem succsF_len (f : Fun) : (succsF f).length = f.2.2.2.1.length := by simp [succsF]
theorem succsF_at {f : Fun} {K : Nat} (h : K < f.2.2.2.1.length) : (succsF f)[K]? = some (nextF f K) := by
  have hb : f.2.2.2.1[K]? = some f.2.2.2.1[K] := List.getElem?_eq_getElem h
  rw [nextF_at hb]
  show (f.2.2.2.1.map _)[K]? = _
  rw [List.getElem?_map, hb]; rfl
theorem rowsTo_in {f : Fun} {K : Nat} (h : K < f.2.2.2.1.length) : rowsTo f K = rowsIn f K [] := by
  unfold rowsTo rowsIn
  obtain ⟨M, hM⟩ : ∃ M, f.2.2.2.1.length - K = M + 1 := ⟨f.2.2.2.1.length - K - 1, by omega⟩
  rw [hM, Nat.add_sub_cancel, List.replicate_succ]
theorem rowsIn_to {f : Fun} {K : Nat} (h : K < f.2.2.2.1.length) : rowsIn f K (nextF f K) = rowsTo f (K + 1) := by
  unfold rowsTo rowsIn
  rw [take_more (succsF_at h), List.append_assoc, Nat.sub_add_eq]; rfl
theorem rowsTo_end (f : Fun) : rowsTo f f.2.2.2.1.length = succsF f := by
  unfold rowsTo
  rw [Nat.sub_self, List.replicate_zero, List.append_nil, List.take_of_length_le (by rw [succsF_len]; exact Nat.le_refl _)]
theorem take_len {f : Fun} {K : Nat} (h : K < f.2.2.2.1.length) : ((succsF f).take K).length = K := by rw [List.length_take, succsF_len]; omega
theorem rowsIn_len {f : Fun} {K : Nat} (acc : List Int) (h : K < f.2.2.2.1.length) : (rowsIn f K acc).length = f.2.2.2.1.length := by
  unfold rowsIn; rw [List.length_append, take_len h, List.length_cons, List.length_replicate]; omega
theorem rowsIn_at {f : Fun} {K : Nat} (acc : List Int) (h : K < f.2.2.2.1.length) : (rowsIn f K acc)[K]? = some acc := by
  unfold rowsIn; rw [List.getElem?_append_right (by rw [take_len h]; exact Nat.le_refl _), take_len h, Nat.sub_self]; rfl
theorem rowsIn_set {f : Fun} {K : Nat} (acc acc' : List Int) (h : K < f.2.2.2.1.length) : (rowsIn f K acc).set K acc' = rowsIn f K acc' := by
  unfold rowsIn; rw [List.set_append_right _ _ (by rw [take_len h]; exact Nat.le_refl _), take_len h, Nat.sub_self]; rfl
/-- From which block each one was gone to last: this one, just if it is in its list. -/
def FrOk (n K : Nat) (acc fr : List Int) : Prop := fr.length = n ∧ ∀ m : Nat, m < n → ∃ c : Int, fr[m]? = some c ∧ c ≤ (K : Int) + 1 ∧ (c = (K : Int) + 1 ↔ hasL acc m = true)
theorem FrOk.start (n : Nat) : FrOk n 0 [] (List.replicate n 0) := by
  refine ⟨by simp, fun m hm => ⟨0, by rw [List.getElem?_replicate, if_pos hm], by omega, ?_⟩⟩
  simp [hasL]
theorem FrOk.next {n K : Nat} {acc fr : List Int} (h : FrOk n K acc fr) : FrOk n (K + 1) [] fr := by
  refine ⟨h.1, fun m hm => ?_⟩
  obtain ⟨c, h1, h2, _⟩ := h.2 m hm
  refine ⟨c, h1, by omega, ?_⟩
  simp [hasL]
  omega
theorem FrOk.put {n K : Nat} {acc fr : List Int} (h : FrOk n K acc fr) {M : Nat} (hM : M < n) : FrOk n K (acc ++ [(M : Int)]) (fr.set M ((K : Int) + 1)) := by
  refine ⟨by simp [h.1], fun m hm => ?_⟩
  by_cases e : M = m
  · subst e
    refine ⟨(K : Int) + 1, by rw [List.getElem?_set, if_pos rfl, if_pos (by have := h.1; omega)], Int.le_refl _, ?_⟩
    rw [hasL_snoc]; simp
  · obtain ⟨c, h1, h2, h3⟩ := h.2 m hm
    refine ⟨c, by rw [List.getElem?_set_ne e]; exact h1, h2, ?_⟩
    have : ¬ (M : Int) = (m : Int) := by omega
    rw [hasL_snoc, h3]; simp [this]
/-- Succs under way. -/
def SucW (B g1 g2 : Nat) (W0 : World) (n K : Nat) (acc : List Int) (ll : List (List Int)) (wr : World) : Prop := ∃ us fr, RowAt wr W0.heap.size 22 g1 n us ∧ RowsS B wr ll us ∧ RowAt wr W0.heap.size 3 g2 n (ints fr) ∧ FrOk n K acc fr ∧ Below W0.heap.size W0 wr ∧ B ≤ wr.heap.size
set_option maxHeartbeats 4000000 in
set_option maxRecDepth 20000 in
theorem succs_try (nm : List UInt8) (ps : List Int) (rt pl : Int) (bl : List (List Ins)) (ao bo : Option Addr) (c cb : Nat) (w : World)
    (hv : FunV w (nm, ps, rt, bl, pl) (.agg #[.string (bs nm), .slice ao ps.length c, .int .i64 rt, .slice bo bl.length cb, .int .i64 pl])) (hF : Ful (nm, ps, rt, bl, pl)) (hT : Tos (nm, ps, rt, bl, pl)) :
    Calls Tryz.prog 47 #[.agg #[.string (bs nm), .slice ao ps.length c, .int .i64 rt, .slice bo bl.length cb, .int .i64 pl]] w fun e w' => ∃ v, e = .returned v ∧ RowsO w.heap.size w' (succsF (nm, ps, rt, bl, pl)) v ∧ Below w.heap.size w w' := by
  obtain ⟨i0, hi0, hz0, hz1, hz2⟩ := info_parts Tryz.info22
  obtain ⟨i3, hi3, hz3, hz4, hz5⟩ := info_parts Tryz.info3
  have b0 := below_box w (.cells #[.string (bs nm), .slice ao ps.length c, .int .i64 rt, .slice bo bl.length cb, .int .i64 pl] 25)
  have X0 := hide (L5.Box.new w [.string (bs nm), .slice ao ps.length c, .int .i64 rt, .slice bo bl.length cb, .int .i64 pl] 25)
  have HV := hide (hv.below b0)
  have B0 := hide b0
  have HFu := hide hF
  have HTo := hide hT
  have hbl : bl.length ≤ 1000000 := hF.1
  clear b0 hv hF hT
  go_enter Tryz.func47, Tryz.ntmps47
  go_upto_region 1 with fail
  show Code.wp _ _ _ _ (w.alloc (.cells #[.string (bs nm), .slice ao ps.length c, .int .i64 rt, .slice bo bl.length cb, .int .i64 pl] 25))
  replace X0 : Hid (L5.Box (w.alloc (.cells #[.string (bs nm), .slice ao ps.length c, .int .i64 rt, .slice bo bl.length cb, .int .i64 pl] 25)) w.heap.size [.string (bs nm), .slice ao ps.length c, .int .i64 rt, .slice bo bl.length cb, .int .i64 pl]) := X0
  generalize w.alloc (.cells #[.string (bs nm), .slice ao ps.length c, .int .i64 rt, .slice bo bl.length cb, .int .i64 pl] 25) = W at *
  have HB : Hid (BlksR W bl (.slice bo bl.length cb)) := hide (by
    obtain ⟨vp, vb, e, _, hB⟩ := HV.out
    injection e with e
    have e3 := congrArg (fun a => a[3]?) e
    simp at e3
    rw [e3]; exact hB)
  have x3 := X0.out.2 3 _ rfl
  go_upto_region 2 with (at_make; refine wpList_make_full _ rfl _ _ 47 rfl W.heap.size 22 i0 _ 1 Tryz.underlying47 hi0 hz0 hz1 .i64 .i64 bl.length bl.length bl.length rfl rfl rfl rfl (by rw [hz2]; omega) (by unfold maxLen; omega) (Nat.le_refl _) ?_; intro w1 own1 grow1; refine Hid.out ?_)
  rw [made_rows] at own1
  have R1 : Hid (RowAt w1 W.heap.size 22 W.heap.size bl.length (List.replicate bl.length (.slice none 0 0))) := hide own1
  have B1 := hide (grown_b grow1)
  clear own1 grow1 x3
  have x3 := (X0.out.below B1.out).2 3 _ rfl
  have hs1 := B1.out.size
  refine hide ?_
  go_upto_region 3 with (at_make; refine wpList_make_full _ rfl _ _ 22 rfl W.heap.size 3 i3 _ 1 Tryz.underlying22 hi3 hz3 hz4 .i64 .i64 bl.length bl.length bl.length rfl rfl rfl rfl (by rw [hz5]; omega) (by unfold maxLen; omega) hs1 ?_; intro w2 own2 grow2; refine Hid.out ?_)
  rw [made_ints] at own2
  have R2 : Hid (RowAt w2 W.heap.size 3 w1.heap.size bl.length (ints (List.replicate bl.length 0))) := hide own2
  have B2 := hide (grown_b grow2)
  have R12 := hide (R1.out.below B2.out)
  have B12 := hide (below_step B1.out B2.out)
  have hg1 : W.heap.size < w1.heap.size := R1.out.lt.2
  have hg2 : w1.heap.size < w2.heap.size := R2.out.lt.2
  clear own2 grow2 x3 hs1
  have x3 := (X0.out.below B12.out).2 3 _ rfl
  have HSt : Hid (SucW w2.heap.size W.heap.size w1.heap.size W bl.length 0 [] (rowsTo (nm, ps, rt, bl, pl) 0) w2) := hide ⟨_, _, R12.out, by
    have := RowsS.start w2.heap.size w2 bl.length
    exact this, R2.out, FrOk.start _, B12.out, Nat.le_refl _⟩
  clear R1 R2 B1 B2 R12 B12
  generalize w2.heap.size = B at *
  generalize w1.heap.size = g2 at *
  generalize hg : W.heap.size = g1 at *
  refine hide ?_
  go_wp2_with fail
  clear x3
  go_loopw [20] (fun i wr => ∃ K : Nat, K ≤ bl.length ∧ i = .int .i64 K ∧ Hid (SucW B g1 g2 W bl.length K [] (rowsTo (nm, ps, rt, bl, pl) K) wr)) (fun i _ => bl.length - (intOf i).toNat)
  case atStart => exact ⟨0, Nat.zero_le _, rfl, HSt⟩
  case round =>
    clear HSt
    obtain ⟨K, hK, rfl, HS⟩ := hrel
    by_cases hkt : K < bl.length
    · have hkI : (K : Int) < bl.length := by omega
      obtain ⟨b, hbK⟩ : ∃ b, bl[K]? = some b := ⟨bl[K], List.getElem?_eq_getElem hkt⟩
      have HWr : Hid (Below W.heap.size W wr) := hide (by obtain ⟨us, fr, _, _, _, _, h, _⟩ := HS.out; exact h)
      obtain ⟨_, _, e', l1, l2, l3⟩ := HB.out
      injection e' with e1 e2 e4
      subst e1 e4
      rcases l3 with l3 | ⟨gc, oc, rfl, gk, h2⟩
      · subst l3; simp at hkt
      obtain ⟨vk, kd, kk⟩ := h2 K b hbK
      have kk2 := kk
      obtain ⟨aok, capk, rfl, m1, m2, _⟩ := kk
      have c1 := (HWr.out.cell (p := ⟨gc, oc + K, none⟩) gk).trans kd
      obtain ⟨x, hx, hlt, h63⟩ := HFu.out.last (List.mem_of_getElem? hbK)
      have HL := hide (labels_any b x aok capk W wr kk2 HWr.out hx)
      have HNx : Hid (nextF (nm, ps, rt, bl, pl) K = onceL x.2.2.2.2.2.1) := hide (by rw [nextF_at (f := (nm, ps, rt, bl, pl)) hbK, hlt])
      have HNu : Hid (Num bl.length x.2.2.2.2.2.1) := hide (by
        intro m hm
        refine HTo.out K m ?_
        rw [HNx.out, ← hasL_mem, hasL_once, hasL_mem]; exact hm)
      have HS0 : Hid (SucW B g1 g2 W bl.length K (onceL (x.2.2.2.2.2.1.take 0)) (rowsIn (nm, ps, rt, bl, pl) K (onceL (x.2.2.2.2.2.1.take 0))) wr) := hide (by
        have := HS.out
        rw [rowsTo_in hkt] at this
        exact this)
      unfold maxLen at m2 l2
      have HIL : Hid (∀ v, IntsV W x.2.2.2.2.2.1 v → ∃ to ct, v = .slice to x.2.2.2.2.2.1.length ct ∧ Sl W to x.2.2.2.2.2.1) := hide (fun v ⟨to, ct, e, h, _⟩ => ⟨to, ct, e, h⟩)
      generalize x.2.2.2.2.2.1 = tt at *
      clear kd kk2 h2 hbK e2 hx hlt HS
      go_wp2_with fail
      refine HL.out.mono ?_; rintro e w9 ⟨⟨v, rfl, hiv⟩, hw9⟩
      subst hw9
      obtain ⟨to, ct, rfl, hsl⟩ := HIL.out v hiv
      have HSl := hide hsl
      clear hiv hsl HL HIL c1
      go_wp2_with fail
      generalize w9 = W9 at *
      go_loopw [28] (fun i wr => ∃ J : Nat, J ≤ tt.length ∧ i = .int .i64 J ∧ Hid (SucW B g1 g2 W bl.length K (onceL (tt.take J)) (rowsIn (nm, ps, rt, bl, pl) K (onceL (tt.take J))) wr)) (fun i _ => tt.length - (intOf i).toNat)
      case atStart => exact ⟨0, Nat.zero_le _, rfl, HS0⟩
      case round =>
        clear HS0
        obtain ⟨J, hJ, rfl, HS⟩ := hrel
        by_cases hjt : J < tt.length
        · have hjI : (J : Int) < tt.length := by omega
          obtain ⟨m, hm⟩ : ∃ m, tt[J]? = some m := ⟨tt[J], List.getElem?_eq_getElem hjt⟩
          obtain ⟨hm0, hm1⟩ := HNu.out m (List.mem_of_getElem? hm)
          obtain ⟨M, rfl⟩ : ∃ M : Nat, m = (M : Int) := ⟨m.toNat, by omega⟩
          have hMl : M < bl.length := by omega
          have HTk := hide (onceL_take hm)
          have hal := onceL_len (tt.take J)
          rw [List.length_take] at hal
          generalize onceL (tt.take J) = acc at *
          rcases HSl.out with e0 | ⟨tb, to2, rfl, t1, t2⟩
          · subst e0; simp at hjt
          obtain ⟨us, fr, q1, q2, q3, q4, q5, q6⟩ := HS.out
          have c9 := (q5.cell (p := ⟨tb, to2 + J, none⟩) t1).trans (t2 J _ hm)
          obtain ⟨cM, f1, f2, f3⟩ := q4.2 M hMl
          have c8 := q3.cell (ints_at f1)
          have HTh := hide (there_any M bl.length wr)
          have hth : thereB M bl.length = true := by simp [thereB]; omega
          rw [hth] at HTh
          have Q1 := hide q1
          have Q2 := hide q2
          have Q3 := hide q3
          have Q4 := hide q4
          have Q5 := hide q5
          clear t2 hm hth q1 q2 q3 q4 q5
          cases hh : hasL acc M with
          | true =>
            have hcc : (cM != (K : Int) + 1) = false := by rw [f3.2 hh]; simp
            have HE : Hid (SucW B g1 g2 W bl.length K (onceL (tt.take (J + 1))) (rowsIn (nm, ps, rt, bl, pl) K (onceL (tt.take (J + 1)))) wr) := hide (by rw [HTk.out, addL_yes hh]; exact HS.out)
            replace hh := hide hh
            clear f1 f2 f3
            go_wp2_with fail
            refine HTh.out.mono ?_; rintro e wA ⟨rfl, rfl⟩
            go_wp2_with fail
            go_roundw
            case rel => exact ⟨J + 1, by omega, by go_num, HE⟩
            case measure => simp [intOf]; omega
          | false =>
            have hcc : (cM != (K : Int) + 1) = true := by
              have : ¬ cM = (K : Int) + 1 := fun e => by rw [f3.1 e] at hh; cases hh
              simpa using this
            have z8 := Q3.out.frozen M
            have HA := hide (HTk.out.trans (addL_no hh))
            obtain ⟨l, u, y1, y2, y3⟩ := Q2.out.at (i := K) (by rw [rowsIn_len _ hkt]; exact hkt)
            rw [rowsIn_at _ hkt] at y1
            injection y1 with y1
            subst y1
            have Q2s : Hid (RowsS B (wr.setCell ⟨g2, M, none⟩ (.int .i64 ((K : Int) + 1))) (rowsIn (nm, ps, rt, bl, pl) K acc) us) := hide (Q2.out.put (p := ⟨g2, M, none⟩) hg2 _)
            have Q1s : Hid (RowAt (wr.setCell ⟨g2, M, none⟩ (.int .i64 ((K : Int) + 1))) W.heap.size 22 g1 bl.length us) := hide (Q1.out.other (p := ⟨g2, M, none⟩) (by show g1 ≠ g2; omega) _)
            have Q3s : Hid (RowAt (wr.setCell ⟨g2, M, none⟩ (.int .i64 ((K : Int) + 1))) W.heap.size 3 g2 bl.length (ints (fr.set M ((K : Int) + 1)))) := hide (by rw [← ints_set]; exact Q3.out.set M _)
            have Q4s := hide (Q4.out.put hMl)
            have Q5s : Hid (Below W.heap.size W (wr.setCell ⟨g2, M, none⟩ (.int .i64 ((K : Int) + 1)))) := hide (Q5.out.setCell (p := ⟨g2, M, none⟩) (by show W.heap.size ≤ g2; omega) _)
            have Y3 : Hid ((wr.setCell ⟨g2, M, none⟩ (.int .i64 ((K : Int) + 1))).ownsRow B 3 1 u acc.length (ints acc)) := hide (ownsRow_setCell_below y3 (a := ⟨g2, M, none⟩) hg2 _)
            have hsz : (wr.setCell ⟨g2, M, none⟩ (.int .i64 ((K : Int) + 1))).heap.size = wr.heap.size := by simp
            have q6s : B ≤ (wr.setCell ⟨g2, M, none⟩ (.int .i64 ((K : Int) + 1))).heap.size := by rw [hsz]; exact q6
            have Y2 := hide y2
            replace hh := hide hh
            clear f1 f2 f3 y2 y3 hsz
            go_upto_region 11 with (go_at_call 65; refine HTh.out.mono ?_; rintro e wA ⟨rfl, rfl⟩)
            show Code.wp _ _ _ _ (wA.setCell ⟨g2, M, none⟩ (.int .i64 ((K : Int) + 1)))
            generalize wA.setCell ⟨g2, M, none⟩ (.int .i64 ((K : Int) + 1)) = wS at *
            have k1 := Q1s.out.cell Y2.out
            obtain ⟨uo, uc, rfl⟩ := own_len Y3.out
            go_wp2_with (at_builtin; refine wpList_append_own_at _ rfl (.tmp 55) (.tmp 57) 22 rfl B 3 i3 _ 1 8 Tryz.underlying22 hi3 hz3 hz4 hz5 rfl (by decide) _ _ _ rfl (Y3.out.alloc _) ⟨wS.heap.size, 0, none⟩ 1 1 [.int .i64 M] rfl rfl one_cell one_one (by unfold maxLen; omega) (by omega) (by simp; omega) ?_; intro v2 wB own2 grow2 _ at2; refine Hid.out ?_)
            have far : ∀ g, g < B → some g ≠ (Value.slice uo acc.length uc).ownBlock := fun g hg e => by have := (Y3.out.lt g e.symm).1; omega
            have P1 : Hid (RowAt wB W.heap.size 22 g1 bl.length us) := hide ((Q1s.out.alloc _).kept grow2 (far g1 (by omega)))
            have P3 : Hid (RowAt wB W.heap.size 3 g2 bl.length (ints (fr.set M ((K : Int) + 1)))) := hide ((Q3s.out.alloc _).kept grow2 (far g2 hg2))
            have P2 := hide (Q2s.out.step (rowsIn_at _ hkt) Y2.out own2 grow2 at2)
            rw [rowsIn_set _ _ hkt] at P2
            have P5 : Hid (Below W.heap.size W wB) := hide (Below.grown (Q5s.out.alloc Q5s.out.size _) grow2 (by simp; omega) (fun k hk => by have := (Y3.out.lt k hk).1; omega))
            have P6 : B ≤ wB.heap.size := by have := grow2.size; simp at this; omega
            have HE : Hid (SucW B g1 g2 W bl.length K (onceL (tt.take (J + 1))) (rowsIn (nm, ps, rt, bl, pl) K (onceL (tt.take (J + 1)))) (wB.setCell ⟨g1, K, none⟩ v2)) := hide (by
              rw [HA.out]
              exact ⟨us.set K v2, _, P1.out.set K v2, P2.out.put (p := ⟨g1, K, none⟩) (by show g1 < B; omega) _, P3.out.other (p := ⟨g1, K, none⟩) (by show g2 ≠ g1; omega) _, Q4s.out, P5.out.setCell (p := ⟨g1, K, none⟩) (by show W.heap.size ≤ g1; omega) _, by simpa using P6⟩)
            obtain ⟨vo, vc, rfl⟩ := own_len own2
            have k2 := P1.out.cell Y2.out
            have k3 := P1.out.frozen K
            clear own2 grow2 at2 k1 far P1 P2 P3 P5 Q1s Q2s Q3s Q5s Y2 Y3
            refine hide ?_
            go_wp2_with fail
            go_roundw
            case rel => exact ⟨J + 1, by omega, by go_num, HE⟩
            case measure => simp [intOf]; omega
        · obtain rfl : J = tt.length := by omega
          have HE : Hid (SucW B g1 g2 W bl.length (K + 1) [] (rowsTo (nm, ps, rt, bl, pl) (K + 1)) wr) := hide (by
            obtain ⟨us, fr, q1, q2, q3, q4, q5, q6⟩ := HS.out
            rw [List.take_length] at q2 q4
            exact ⟨us, fr, q1, by rw [← rowsIn_to hkt, HNx.out]; exact q2, q3, q4.next, q5, q6⟩)
          go_wp2_with fail
          go_roundw
          case rel => exact ⟨K + 1, by omega, by go_num, HE⟩
          case measure => simp [intOf]; omega
    · obtain rfl : K = bl.length := by omega
      obtain ⟨us, fr, q1, q2, q3, q4, q5, q6⟩ := HS.out
      have HE : Hid (RowsO w.heap.size wr (succsF (nm, ps, rt, bl, pl)) (.slice (some ⟨g1, 0, none⟩) bl.length bl.length) ∧ Below w.heap.size w wr) := hide (by
        refine ⟨?_, below_step B0.out q5⟩
        have := q2.rows q1 (by omega)
        have e : rowsTo (nm, ps, rt, bl, pl) bl.length = succsF (nm, ps, rt, bl, pl) := rowsTo_end (nm, ps, rt, bl, pl)
        rw [e] at this
        exact this.base B0.out.size)
      clear q1 q2 q3 q4 q5 HS
      go_wp2_with fail
      go_ret
      exact ⟨_, rfl, HE.out.1, HE.out.2⟩
end Go.Proofs.YtmiplohoclckcaaGreat
