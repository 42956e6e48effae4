/- Layer 8: what a light function is; the reference's answers and the laws' own helpers, as properties that stay. Layer 8: the law GraphFollows. What each row of this seat is given: where the table of the operations reads as the program's text lays it, its cells are the plain table's; the heap that the program's own start leaves is one such. -/
import Derived.Test.YtfmeadbiokcboaaDoorMfAH
import Derived.Test.YtfmeadbiokcboaaDoorMfAX
import Derived.Test.YtfmeadbiokcboaaDoorRows
import Derived.ProofKit
import Derived.LaidMore
import Derived.OpenShut
import Derived.Stop.Joined
import Derived.ShutString
import Derived.ChangeOld
import Derived.Below
import Derived.Lib.LaidTab
import Derived.Lib.SmallJoins
import Derived.WideKeyPair
namespace Go.Proofs.YtfmeadbiokcboaaDoor
open Go Go.RowKit
open G (Tok Er Ins Fun)
open Mix (Up)
theorem shapedGo_zero (N : Nat) : ∀ (l : List (List Ins)) (k : Nat), (shapedGo N k l).1 = 0 → ∀ b ∈ l, blkE N b = 0 := by
  intro l
  induction l with
  | nil => intro k _ b hb; cases hb
  | cons c l ih =>
    intro k h b hb
    by_cases e : blkE N c = 0
    · rw [shapedGo_next e] at h
      rcases List.mem_cons.1 hb with rfl | hb
      · exact e
      · exact ih _ h b hb
    · rw [shapedGo_hit rfl e] at h
      exact absurd h e
theorem blkGo_zero (N n : Nat) : ∀ (l : List Ins) (i : Nat), blkGo N n i l = 0 → ∀ (j : Nat) (x : Ins), l[j]? = some x → endsB x.1 = decide (i + j + 1 = n) ∧ badI N x = false := by
  intro l
  induction l with
  | nil => intro i _ j x hx; simp at hx
  | cons y l ih =>
    intro i h j x hx
    by_cases e : endsB y.1 = decide (i + 1 = n)
    · cases hb : badI N y with
      | true => rw [blkGo_bad e hb] at h; cases h
      | false =>
        rw [blkGo_next e hb] at h
        cases j with
        | zero => simp at hx; subst hx; exact ⟨e, hb⟩
        | succ j =>
          have := ih (i + 1) h j x (by simpa using hx)
          rw [show i + 1 + j + 1 = i + (j + 1) + 1 by omega] at this
          exact this
    · rw [blkGo_end e] at h; cases h
theorem lgt_pos {f : Fun} (h : Lgt f) : 0 < f.2.2.2.1.length := by
  have h3 := h.2.2
  unfold shapedF at h3
  split at h3
  · cases h3
  · omega
theorem lgt_blk {f : Fun} (h : Lgt f) : ∀ b ∈ f.2.2.2.1, b.length ≠ 0 ∧ blkGo f.2.2.2.1.length b.length 0 b = 0 := by
  have h0 := lgt_pos h
  have h3 := h.2.2
  unfold shapedF at h3
  rw [if_neg (by omega)] at h3
  intro b hb
  have := shapedGo_zero _ _ _ h3 b hb
  unfold blkE at this
  split at this
  · cases this
  · exact ⟨by assumption, this⟩
theorem lgt_ful {f : Fun} (h : Lgt f) : Ful f := by
  refine ⟨Nat.le_trans h.1 (by omega), fun b hb => ⟨fun e => (lgt_blk h b hb).1 (by rw [e]; rfl), fun x hx => ?_⟩⟩
  exact Nat.le_trans ((h.2.1 b hb).2 x hx).1 (by omega)
theorem lgt_tos {f : Fun} (h : Lgt f) : Tos f := by
  intro j
  by_cases hj : j < f.2.2.2.1.length
  · have hb : f.2.2.2.1[j]? = some f.2.2.2.1[j] := List.getElem?_eq_getElem hj
    obtain ⟨h1, h2⟩ := lgt_blk h _ (List.mem_of_getElem? hb)
    obtain ⟨x, hx, hl, _⟩ := (lgt_ful h).last (List.mem_of_getElem? hb)
    rw [nextF_at hb, hl]
    obtain ⟨k1, k2⟩ := blkGo_zero _ _ _ _ h2 _ x hx
    have hend : endsB x.1 = true := by rw [k1]; simp; omega
    have hop : x.1 ≠ 20 := by
      intro e
      rw [e] at hend
      simp [endsB] at hend
    have hbt : badT f.2.2.2.1.length x.2.2.2.2.2.1 = false := by
      unfold badI at k2
      simpa [hop] using k2
    intro m hm
    have hm2 : m ∈ x.2.2.2.2.2.1 := by rw [← hasL_mem, hasL_once, hasL_mem] at hm; exact hm
    unfold badT at hbt
    have := List.any_eq_false.1 hbt m hm2
    simp at this
    omega
  · have e : nextF f j = [] := by
      unfold nextF
      rw [List.getD_eq_getElem?_getD, List.getElem?_eq_none (by omega)]; rfl
    rw [e]
    intro m hm
    cases hm
theorem light_any (f : Fun) (v : Value) (w : World) (hv : FunV w f v) (hg : GyF f) :
    Calls Tryd.prog 11 #[v] w fun e w' => (e = .returned (.int .i64 1) ∨ (e = .returned (.int .i64 0) ∧ Lgt f)) ∧ Below w.heap.size w w' := by
  have hl := hg.light
  obtain ⟨nm, ps, rt, bl, pl⟩ := f
  have hv2 := hv
  obtain ⟨vp, vb, rfl, ⟨ao, c, rfl, h1, _⟩, h2⟩ := hv
  obtain ⟨bo, cb, rfl, _⟩ := h2
  exact light_try nm ps rt pl bl ao bo c cb w hv2 hl
theorem rsuccs_any (f : Fun) (v : Value) (w : World) (hv : FunV w f v) (hF : Ful f) :
    Calls Tryd.prog 14 #[v] w fun e w' => ∃ u, e = .returned u ∧ Below w.heap.size w w' ∧ RowsV w' (succsF f) u := by
  obtain ⟨nm, ps, rt, bl, pl⟩ := f
  have hv2 := hv
  obtain ⟨vp, vb, rfl, ⟨ao, c, rfl, h1, _⟩, h2⟩ := hv
  obtain ⟨bo, cb, rfl, _⟩ := h2
  exact (rsuccs_try nm ps rt pl bl ao bo c cb w hv2 hF).mono fun e w' ⟨u, he, h, b⟩ => ⟨u, he, b, h.read⟩
theorem rpreds_any (f : Fun) (v : Value) (w : World) (hv : FunV w f v) (hF : Ful f) :
    Calls Tryd.prog 16 #[v] w fun e w' => ∃ u, e = .returned u ∧ Below w.heap.size w w' ∧ RowsV w' (predsF f) u := by
  obtain ⟨nm, ps, rt, bl, pl⟩ := f
  have hv2 := hv
  obtain ⟨vp, vb, rfl, ⟨ao, c, rfl, h1, _⟩, h2⟩ := hv
  obtain ⟨bo, cb, rfl, _⟩ := h2
  exact (rpreds_try nm ps rt pl bl ao bo c cb w hv2 hF).mono fun e w' ⟨u, he, h, b⟩ => ⟨u, he, b, h.read⟩
theorem rbacks_any (f : Fun) (v : Value) (w : World) (hv : FunV w f v) (hF : Ful f) (hT : Tos f) (h0 : 0 < f.2.2.2.1.length) :
    Calls Tryd.prog 23 #[v] w fun e w' => ∃ u, e = .returned u ∧ Below w.heap.size w w' ∧ PairsV w' (backsF f) u := by
  obtain ⟨nm, ps, rt, bl, pl⟩ := f
  have hv2 := hv
  obtain ⟨vp, vb, rfl, ⟨ao, c, rfl, h1, _⟩, h2⟩ := hv
  obtain ⟨bo, cb, rfl, _⟩ := h2
  exact (rbacks_try nm ps rt pl bl ao bo c cb w hv2 hF hT h0).mono fun e w' ⟨u, he, h, b⟩ => ⟨u, he, b, pairs_read h⟩
theorem lists_any (ll : List (List Int)) (u v : Value) (w : World) (hu : RowsV w ll u) (hv : RowsV w ll v) : Calls Tryd.prog 12 #[u, v] w fun e w' => e = .returned (.bool true) ∧ Below w.heap.size w w' := by
  obtain ⟨ao, ca, rfl, h1, h2, h3⟩ := hu
  obtain ⟨bo, cb, rfl, k1, _⟩ := hv
  exact rlists_same ll ao bo ca cb w (Nat.le_trans h2 h3) h1 k1
theorem ints_any (l : List Int) (u v : Value) (w : World) (hu : IntsV w l u) (hv : IntsV w l v) : Calls Tryd.prog 17 #[u, v] w fun e w' => e = .returned (.bool true) ∧ Below w.heap.size w w' := by
  obtain ⟨ao, ca, rfl, h1, h2, h3⟩ := hu
  obtain ⟨bo, cb, rfl, k1, _⟩ := hv
  exact rints_same l ao bo ca cb w (Nat.le_trans h2 h3) h1 k1
theorem places_read {w : World} {B g : Nat} {f : Fun} (h : RowAt w B 3 g f.2.2.2.1.length (ints (placesF f))) : IntsV w (placesF f) (.slice (some ⟨g, 0, none⟩) f.2.2.2.1.length f.2.2.2.1.length) := by
  have e := placesF_len f
  rw [← e] at h ⊢
  exact ints_of h
end Go.Proofs.YtfmeadbiokcboaaDoor
namespace Go.Proofs.YtfmeadbiokcboaaDoor
open Go Go.RowKit
open G (Tok Er Ins Fun)
open Mix (Up)
def followsF (fv : Value) (f : Fun) (t : Tmp) : Up := match t with
  | 10 | 12 | 17 | 19 | 25 | 27 | 33 | 35 => Up.eq fv
  | 11 | 13 => Up.rows (succsF f)
  | 18 | 20 => Up.rows (predsF f)
  | 26 | 28 => Up.ints (orderF f)
  | 34 | 36 => Up.ints (placesF f)
  | 14 | 21 | 29 | 37 => Up.eq (.bool true)
  | 15 | 16 | 22 | 23 | 24 | 30 | 31 | 32 | 38 | 39 => Up.eq (.bool false)
  | _ => Up.any
def backsUp (fv : Value) (f : Fun) (t : Tmp) : Up := match t with
  | 40 | 42 => Up.eq fv
  | 41 | 43 | 3 | 4 => Up.pairs (backsF f)
  | _ => Up.any
set_option maxHeartbeats 2000000 in
set_option maxRecDepth 20000 in
theorem lawFollows (f : Fun) (v : Value) (w : World) (hv : FunV w f v) (hg : GyF f) (ht : Tab w) :
    Calls Tryd.prog 4 #[v] w fun e w' => e = .returned (.bool true) ∧ Below w.heap.size w w' := by
  have hv2 := hv
  obtain ⟨vp, vb, rfl, _, _⟩ := hv2
  have b0 := below_box w (.cells #[.string (bs f.1), vp, .int .i64 f.2.2.1, vb, .int .i64 f.2.2.2.2] 25)
  have X0 := hide (L5.Box.new w [.string (bs f.1), vp, .int .i64 f.2.2.1, vb, .int .i64 f.2.2.2.2] 25)
  have HV := hide (hv.below b0)
  have HT := hide (ht.below b0)
  have B0 := hide b0
  have HLt := hide (light_any f _ _ (hv.below b0) hg)
  have HWk := hide works_any
  clear b0 hv hg ht
  obtain ⟨lp, cp, rfl⟩ : ∃ ao c, vp = .slice ao f.2.1.length c := by
    obtain ⟨vp', vb', e, ⟨ao, c, e2, _⟩, _⟩ := HV.out
    injection e with e
    have e1 := congrArg (fun a => a[1]?) e
    simp at e1
    exact ⟨ao, c, by rw [e1, e2]⟩
  obtain ⟨lb, cb, rfl⟩ : ∃ ao c, vb = .slice ao f.2.2.2.1.length c := by
    obtain ⟨vp', vb', e, _, ⟨ao, c, e2, _⟩⟩ := HV.out
    injection e with e
    have e1 := congrArg (fun a => a[3]?) e
    simp at e1
    exact ⟨ao, c, by rw [e1, e2]⟩
  generalize bs f.1 = nm at *
  generalize f.2.1.length = lps at *
  generalize f.2.2.1 = rt at *
  obtain ⟨lbs, hlbs⟩ : ∃ n, n = f.2.2.2.1.length := ⟨_, rfl⟩
  rw [← hlbs] at X0 HV HT B0 HLt ⊢
  have HLB := hide hlbs
  clear hlbs
  generalize f.2.2.2.2 = pl at *
  go_enter Tryd.func4, Tryd.ntmps4
  go_upto_region 1 with fail
  show Code.wp _ _ _ _ (w.alloc (.cells #[.string nm, .slice lp lps cp, .int .i64 rt, .slice lb lbs cb, .int .i64 pl] 25))
  replace X0 : Hid (L5.Box (w.alloc (.cells #[.string nm, .slice lp lps cp, .int .i64 rt, .slice lb lbs cb, .int .i64 pl] 25)) w.heap.size [.string nm, .slice lp lps cp, .int .i64 rt, .slice lb lbs cb, .int .i64 pl]) := X0
  generalize w.alloc (.cells #[.string nm, .slice lp lps cp, .int .i64 rt, .slice lb lbs cb, .int .i64 pl] 25) = W at *
  obtain ⟨x0, x1, x2, x3, x4⟩ : _ ∧ _ ∧ _ ∧ _ ∧ _ := ⟨X0.out.2 0 _ rfl, X0.out.2 1 _ rfl, X0.out.2 2 _ rfl, X0.out.2 3 _ rfl, X0.out.2 4 _ rfl⟩
  go_wp2_with fail
  refine HLt.out.mono ?_; rintro e w2 ⟨he, b2⟩
  have B2 := hide b2
  have HBB := hide (below_step B0.out b2)
  clear x0 x1 x2 x3 x4 b2 HLt
  rcases he with rfl | ⟨rfl, hlg⟩
  · skip
    have HW2 := hide (HWk.out w2 (HT.out.below B2.out))
    go_wp2_with fail
    refine HW2.out.mono ?_; rintro e w3 ⟨rfl, b3⟩
    have HE := hide (below_step HBB.out b3)
    clear b3
    go_wp2_with fail
    go_ret
    exact ⟨rfl, HE.out⟩
  · skip
    have X2 := hide (X0.out.below B2.out)
    have HV2 := hide (HV.out.below B2.out)
    have HT2 := hide (HT.out.below B2.out)
    have HF := hide (lgt_ful hlg)
    have HTo := hide (lgt_tos hlg)
    have h0 := lgt_pos hlg
    clear hlg
    have CS : ∀ w, Below w2.heap.size w2 w → Calls Tryd.prog 13 #[(.agg #[.string nm, .slice lp lps cp, .int .i64 rt, .slice lb lbs cb, .int .i64 pl])] w fun e w' => ∃ v, e = .returned v ∧ Below w.heap.size w w' ∧ RowsV w' (succsF f) v := fun w b => (succs_any f _ w (HV2.out.below b) HF.out HTo.out).mono fun e w' ⟨v, he, h, b'⟩ => ⟨v, he, b', h.read⟩
    have CSr : ∀ w, Below w2.heap.size w2 w → Calls Tryd.prog 14 #[(.agg #[.string nm, .slice lp lps cp, .int .i64 rt, .slice lb lbs cb, .int .i64 pl])] w fun e w' => ∃ v, e = .returned v ∧ Below w.heap.size w w' ∧ RowsV w' (succsF f) v := fun w b => rsuccs_any f _ w (HV2.out.below b) HF.out
    have CP : ∀ w, Below w2.heap.size w2 w → Calls Tryd.prog 15 #[(.agg #[.string nm, .slice lp lps cp, .int .i64 rt, .slice lb lbs cb, .int .i64 pl])] w fun e w' => ∃ v, e = .returned v ∧ Below w.heap.size w w' ∧ RowsV w' (predsF f) v := fun w b => (preds_any f _ w (HV2.out.below b) HF.out HTo.out).mono fun e w' ⟨v, he, h, b'⟩ => ⟨v, he, b', h.read⟩
    have CPr : ∀ w, Below w2.heap.size w2 w → Calls Tryd.prog 16 #[(.agg #[.string nm, .slice lp lps cp, .int .i64 rt, .slice lb lbs cb, .int .i64 pl])] w fun e w' => ∃ v, e = .returned v ∧ Below w.heap.size w w' ∧ RowsV w' (predsF f) v := fun w b => rpreds_any f _ w (HV2.out.below b) HF.out
    have CO : ∀ w, Below w2.heap.size w2 w → Calls Tryd.prog 18 #[(.agg #[.string nm, .slice lp lps cp, .int .i64 rt, .slice lb lbs cb, .int .i64 pl])] w fun e w' => ∃ v, e = .returned v ∧ Below w.heap.size w w' ∧ IntsV w' (orderF f) v := fun w b => (orderP_any f _ w (HV2.out.below b) HF.out HTo.out h0).mono fun e w' ⟨v, he, h, b'⟩ => ⟨v, he, b', ints_of h⟩
    have COr : ∀ w, Below w2.heap.size w2 w → Calls Tryd.prog 19 #[(.agg #[.string nm, .slice lp lps cp, .int .i64 rt, .slice lb lbs cb, .int .i64 pl])] w fun e w' => ∃ v, e = .returned v ∧ Below w.heap.size w w' ∧ IntsV w' (orderF f) v := fun w b => (rorder_any f _ w (HV2.out.below b) HF.out HTo.out h0).mono fun e w' ⟨v, he, h, b'⟩ => ⟨v, he, b', ints_of h⟩
    have CL : ∀ w, Below w2.heap.size w2 w → Calls Tryd.prog 20 #[(.agg #[.string nm, .slice lp lps cp, .int .i64 rt, .slice lb lbs cb, .int .i64 pl])] w fun e w' => ∃ v, e = .returned v ∧ Below w.heap.size w w' ∧ IntsV w' (placesF f) v := fun w b => (placesP_any f _ w (HV2.out.below b) HF.out HTo.out h0).mono fun e w' ⟨g, he, h, b'⟩ => ⟨_, he, b', places_read h⟩
    have CLr : ∀ w, Below w2.heap.size w2 w → Calls Tryd.prog 21 #[(.agg #[.string nm, .slice lp lps cp, .int .i64 rt, .slice lb lbs cb, .int .i64 pl])] w fun e w' => ∃ v, e = .returned v ∧ Below w.heap.size w w' ∧ IntsV w' (placesF f) v := fun w b => (rplaces_any f _ w (HV2.out.below b) HF.out HTo.out h0).mono fun e w' ⟨v, he, h, b'⟩ => ⟨v, he, b', ints_of h⟩
    have xs := fun (w : World) (b : Below w2.heap.size w2 w) => And.intro ((X2.out.below b).2 0 _ rfl) (And.intro ((X2.out.below b).2 1 _ rfl) (And.intro ((X2.out.below b).2 2 _ rfl) (And.intro ((X2.out.below b).2 3 _ rfl) ((X2.out.below b).2 4 _ rfl))))
    go_upto_region 3 with fail
    refine Mix.wp_region_mix (followsF (.agg #[.string nm, .slice lp lps cp, .int .i64 rt, .slice lb lbs cb, .int .i64 pl]) f) (by kernel_rfl) (by kernel_rfl) ?_
    refine Mix.mix_step rfl (valid_eq (.agg #[.string nm, .slice lp lps cp, .int .i64 rt, .slice lb lbs cb, .int .i64 pl]) rfl) ?_ ?_
    · intro w b k
      obtain ⟨x0, x1, x2, x3, x4⟩ := xs w b
      clear k
      simp [go_sem, x0, x1, x2, x3, x4]
      exact ⟨Below.refl _ _, fun d hd => by cases hd; rfl⟩
    rintro v ⟨_, _, h⟩
    obtain rfl : v = (.agg #[.string nm, .slice lp lps cp, .int .i64 rt, .slice lb lbs cb, .int .i64 pl]) := h _ rfl
    clear h
    simp only [Act.put, List.setIfInBounds_toArray, List.set_cons_succ, List.set_cons_zero]
    refine Mix.mix_step rfl (valid_of (CS w2 (Below.refl _ _))) ?_ ?_
    · intro w b k
      clear k
      simp [go_sem]
      exact Calls.mono (CS w b) fun e w' ⟨v, he, hb, hf⟩ => ⟨v, he, hb, fun d hd => by cases hd; exact hf⟩
    rintro p11 -
    simp only [Act.put, List.setIfInBounds_toArray, List.set_cons_succ, List.set_cons_zero]
    refine Mix.mix_step rfl (valid_eq (.agg #[.string nm, .slice lp lps cp, .int .i64 rt, .slice lb lbs cb, .int .i64 pl]) rfl) ?_ ?_
    · intro w b k
      obtain ⟨x0, x1, x2, x3, x4⟩ := xs w b
      clear k
      simp [go_sem, x0, x1, x2, x3, x4]
      exact ⟨Below.refl _ _, fun d hd => by cases hd; rfl⟩
    rintro v ⟨_, _, h⟩
    obtain rfl : v = (.agg #[.string nm, .slice lp lps cp, .int .i64 rt, .slice lb lbs cb, .int .i64 pl]) := h _ rfl
    clear h
    simp only [Act.put, List.setIfInBounds_toArray, List.set_cons_succ, List.set_cons_zero]
    refine Mix.mix_step rfl (valid_of (CSr w2 (Below.refl _ _))) ?_ ?_
    · intro w b k
      clear k
      simp [go_sem]
      exact Calls.mono (CSr w b) fun e w' ⟨v, he, hb, hf⟩ => ⟨v, he, hb, fun d hd => by cases hd; exact hf⟩
    rintro p13 -
    simp only [Act.put, List.setIfInBounds_toArray, List.set_cons_succ, List.set_cons_zero]
    refine Mix.mix_step rfl (valid_eq (.bool true) rfl) ?_ ?_
    · intro w b k
      have f1 : RowsV w (succsF f) p11 := k 11 (by decide +kernel) (by simp [Mix.add]) p11 rfl
      have f2 : RowsV w (succsF f) p13 := k 13 (by decide +kernel) (by simp [Mix.add]) p13 rfl
      clear k
      simp [go_sem]
      exact Calls.mono (lists_any _ _ _ w f1 f2) fun e w' ⟨he, hb⟩ => ⟨_, he, hb, fun d hd => by cases hd; rfl⟩
    rintro v ⟨_, _, h⟩
    obtain rfl : v = (.bool true) := h _ rfl
    clear h
    simp only [Act.put, List.setIfInBounds_toArray, List.set_cons_succ, List.set_cons_zero]
    refine Mix.mix_step rfl (valid_eq (.bool false) rfl) ?_ ?_
    · intro w b k
      clear k
      simp [go_sem]
      exact ⟨Below.refl _ _, fun d hd => by cases hd; rfl⟩
    rintro v ⟨_, _, h⟩
    obtain rfl : v = (.bool false) := h _ rfl
    clear h
    simp only [Act.put, List.setIfInBounds_toArray, List.set_cons_succ, List.set_cons_zero]
    refine Mix.mix_step rfl (valid_eq (.bool false) rfl) ?_ ?_
    · intro w b k
      clear k
      simp [go_sem]
      exact ⟨Below.refl _ _, fun d hd => by cases hd; rfl⟩
    rintro v ⟨_, _, h⟩
    obtain rfl : v = (.bool false) := h _ rfl
    clear h
    simp only [Act.put, List.setIfInBounds_toArray, List.set_cons_succ, List.set_cons_zero]
    refine Mix.mix_step rfl (valid_eq (.agg #[.string nm, .slice lp lps cp, .int .i64 rt, .slice lb lbs cb, .int .i64 pl]) rfl) ?_ ?_
    · intro w b k
      obtain ⟨x0, x1, x2, x3, x4⟩ := xs w b
      clear k
      simp [go_sem, x0, x1, x2, x3, x4]
      exact ⟨Below.refl _ _, fun d hd => by cases hd; rfl⟩
    rintro v ⟨_, _, h⟩
    obtain rfl : v = (.agg #[.string nm, .slice lp lps cp, .int .i64 rt, .slice lb lbs cb, .int .i64 pl]) := h _ rfl
    clear h
    simp only [Act.put, List.setIfInBounds_toArray, List.set_cons_succ, List.set_cons_zero]
    refine Mix.mix_step rfl (valid_of (CP w2 (Below.refl _ _))) ?_ ?_
    · intro w b k
      clear k
      simp [go_sem]
      exact Calls.mono (CP w b) fun e w' ⟨v, he, hb, hf⟩ => ⟨v, he, hb, fun d hd => by cases hd; exact hf⟩
    rintro p18 -
    simp only [Act.put, List.setIfInBounds_toArray, List.set_cons_succ, List.set_cons_zero]
    refine Mix.mix_step rfl (valid_eq (.agg #[.string nm, .slice lp lps cp, .int .i64 rt, .slice lb lbs cb, .int .i64 pl]) rfl) ?_ ?_
    · intro w b k
      obtain ⟨x0, x1, x2, x3, x4⟩ := xs w b
      clear k
      simp [go_sem, x0, x1, x2, x3, x4]
      exact ⟨Below.refl _ _, fun d hd => by cases hd; rfl⟩
    rintro v ⟨_, _, h⟩
    obtain rfl : v = (.agg #[.string nm, .slice lp lps cp, .int .i64 rt, .slice lb lbs cb, .int .i64 pl]) := h _ rfl
    clear h
    simp only [Act.put, List.setIfInBounds_toArray, List.set_cons_succ, List.set_cons_zero]
    refine Mix.mix_step rfl (valid_of (CPr w2 (Below.refl _ _))) ?_ ?_
    · intro w b k
      clear k
      simp [go_sem]
      exact Calls.mono (CPr w b) fun e w' ⟨v, he, hb, hf⟩ => ⟨v, he, hb, fun d hd => by cases hd; exact hf⟩
    rintro p20 -
    simp only [Act.put, List.setIfInBounds_toArray, List.set_cons_succ, List.set_cons_zero]
    refine Mix.mix_step rfl (valid_eq (.bool true) rfl) ?_ ?_
    · intro w b k
      have f1 : RowsV w (predsF f) p18 := k 18 (by decide +kernel) (by simp [Mix.add]) p18 rfl
      have f2 : RowsV w (predsF f) p20 := k 20 (by decide +kernel) (by simp [Mix.add]) p20 rfl
      clear k
      simp [go_sem]
      exact Calls.mono (lists_any _ _ _ w f1 f2) fun e w' ⟨he, hb⟩ => ⟨_, he, hb, fun d hd => by cases hd; rfl⟩
    rintro v ⟨_, _, h⟩
    obtain rfl : v = (.bool true) := h _ rfl
    clear h
    simp only [Act.put, List.setIfInBounds_toArray, List.set_cons_succ, List.set_cons_zero]
    refine Mix.mix_step rfl (valid_eq (.bool false) rfl) ?_ ?_
    · intro w b k
      clear k
      simp [go_sem]
      exact ⟨Below.refl _ _, fun d hd => by cases hd; rfl⟩
    rintro v ⟨_, _, h⟩
    obtain rfl : v = (.bool false) := h _ rfl
    clear h
    simp only [Act.put, List.setIfInBounds_toArray, List.set_cons_succ, List.set_cons_zero]
    refine Mix.mix_step rfl (valid_eq (.bool false) rfl) ?_ ?_
    · intro w b k
      clear k
      simp [go_sem]
      exact ⟨Below.refl _ _, fun d hd => by cases hd; rfl⟩
    rintro v ⟨_, _, h⟩
    obtain rfl : v = (.bool false) := h _ rfl
    clear h
    simp only [Act.put, List.setIfInBounds_toArray, List.set_cons_succ, List.set_cons_zero]
    refine Mix.mix_step rfl (valid_eq (.bool false) rfl) ?_ ?_
    · intro w b k
      clear k
      simp [go_sem]
      exact ⟨Below.refl _ _, fun d hd => by cases hd; rfl⟩
    rintro v ⟨_, _, h⟩
    obtain rfl : v = (.bool false) := h _ rfl
    clear h
    simp only [Act.put, List.setIfInBounds_toArray, List.set_cons_succ, List.set_cons_zero]
    refine Mix.mix_step rfl (valid_eq (.agg #[.string nm, .slice lp lps cp, .int .i64 rt, .slice lb lbs cb, .int .i64 pl]) rfl) ?_ ?_
    · intro w b k
      obtain ⟨x0, x1, x2, x3, x4⟩ := xs w b
      clear k
      simp [go_sem, x0, x1, x2, x3, x4]
      exact ⟨Below.refl _ _, fun d hd => by cases hd; rfl⟩
    rintro v ⟨_, _, h⟩
    obtain rfl : v = (.agg #[.string nm, .slice lp lps cp, .int .i64 rt, .slice lb lbs cb, .int .i64 pl]) := h _ rfl
    clear h
    simp only [Act.put, List.setIfInBounds_toArray, List.set_cons_succ, List.set_cons_zero]
    refine Mix.mix_step rfl (valid_of (CO w2 (Below.refl _ _))) ?_ ?_
    · intro w b k
      clear k
      simp [go_sem]
      exact Calls.mono (CO w b) fun e w' ⟨v, he, hb, hf⟩ => ⟨v, he, hb, fun d hd => by cases hd; exact hf⟩
    rintro p26 -
    simp only [Act.put, List.setIfInBounds_toArray, List.set_cons_succ, List.set_cons_zero]
    refine Mix.mix_step rfl (valid_eq (.agg #[.string nm, .slice lp lps cp, .int .i64 rt, .slice lb lbs cb, .int .i64 pl]) rfl) ?_ ?_
    · intro w b k
      obtain ⟨x0, x1, x2, x3, x4⟩ := xs w b
      clear k
      simp [go_sem, x0, x1, x2, x3, x4]
      exact ⟨Below.refl _ _, fun d hd => by cases hd; rfl⟩
    rintro v ⟨_, _, h⟩
    obtain rfl : v = (.agg #[.string nm, .slice lp lps cp, .int .i64 rt, .slice lb lbs cb, .int .i64 pl]) := h _ rfl
    clear h
    simp only [Act.put, List.setIfInBounds_toArray, List.set_cons_succ, List.set_cons_zero]
    refine Mix.mix_step rfl (valid_of (COr w2 (Below.refl _ _))) ?_ ?_
    · intro w b k
      clear k
      simp [go_sem]
      exact Calls.mono (COr w b) fun e w' ⟨v, he, hb, hf⟩ => ⟨v, he, hb, fun d hd => by cases hd; exact hf⟩
    rintro p28 -
    simp only [Act.put, List.setIfInBounds_toArray, List.set_cons_succ, List.set_cons_zero]
    refine Mix.mix_step rfl (valid_eq (.bool true) rfl) ?_ ?_
    · intro w b k
      have f1 : IntsV w (orderF f) p26 := k 26 (by decide +kernel) (by simp [Mix.add]) p26 rfl
      have f2 : IntsV w (orderF f) p28 := k 28 (by decide +kernel) (by simp [Mix.add]) p28 rfl
      clear k
      simp [go_sem]
      exact Calls.mono (ints_any _ _ _ w f1 f2) fun e w' ⟨he, hb⟩ => ⟨_, he, hb, fun d hd => by cases hd; rfl⟩
    rintro v ⟨_, _, h⟩
    obtain rfl : v = (.bool true) := h _ rfl
    clear h
    simp only [Act.put, List.setIfInBounds_toArray, List.set_cons_succ, List.set_cons_zero]
    refine Mix.mix_step rfl (valid_eq (.bool false) rfl) ?_ ?_
    · intro w b k
      clear k
      simp [go_sem]
      exact ⟨Below.refl _ _, fun d hd => by cases hd; rfl⟩
    rintro v ⟨_, _, h⟩
    obtain rfl : v = (.bool false) := h _ rfl
    clear h
    simp only [Act.put, List.setIfInBounds_toArray, List.set_cons_succ, List.set_cons_zero]
    refine Mix.mix_step rfl (valid_eq (.bool false) rfl) ?_ ?_
    · intro w b k
      clear k
      simp [go_sem]
      exact ⟨Below.refl _ _, fun d hd => by cases hd; rfl⟩
    rintro v ⟨_, _, h⟩
    obtain rfl : v = (.bool false) := h _ rfl
    clear h
    simp only [Act.put, List.setIfInBounds_toArray, List.set_cons_succ, List.set_cons_zero]
    refine Mix.mix_step rfl (valid_eq (.bool false) rfl) ?_ ?_
    · intro w b k
      clear k
      simp [go_sem]
      exact ⟨Below.refl _ _, fun d hd => by cases hd; rfl⟩
    rintro v ⟨_, _, h⟩
    obtain rfl : v = (.bool false) := h _ rfl
    clear h
    simp only [Act.put, List.setIfInBounds_toArray, List.set_cons_succ, List.set_cons_zero]
    refine Mix.mix_step rfl (valid_eq (.agg #[.string nm, .slice lp lps cp, .int .i64 rt, .slice lb lbs cb, .int .i64 pl]) rfl) ?_ ?_
    · intro w b k
      obtain ⟨x0, x1, x2, x3, x4⟩ := xs w b
      clear k
      simp [go_sem, x0, x1, x2, x3, x4]
      exact ⟨Below.refl _ _, fun d hd => by cases hd; rfl⟩
    rintro v ⟨_, _, h⟩
    obtain rfl : v = (.agg #[.string nm, .slice lp lps cp, .int .i64 rt, .slice lb lbs cb, .int .i64 pl]) := h _ rfl
    clear h
    simp only [Act.put, List.setIfInBounds_toArray, List.set_cons_succ, List.set_cons_zero]
    refine Mix.mix_step rfl (valid_of (CL w2 (Below.refl _ _))) ?_ ?_
    · intro w b k
      clear k
      simp [go_sem]
      exact Calls.mono (CL w b) fun e w' ⟨v, he, hb, hf⟩ => ⟨v, he, hb, fun d hd => by cases hd; exact hf⟩
    rintro p34 -
    simp only [Act.put, List.setIfInBounds_toArray, List.set_cons_succ, List.set_cons_zero]
    refine Mix.mix_step rfl (valid_eq (.agg #[.string nm, .slice lp lps cp, .int .i64 rt, .slice lb lbs cb, .int .i64 pl]) rfl) ?_ ?_
    · intro w b k
      obtain ⟨x0, x1, x2, x3, x4⟩ := xs w b
      clear k
      simp [go_sem, x0, x1, x2, x3, x4]
      exact ⟨Below.refl _ _, fun d hd => by cases hd; rfl⟩
    rintro v ⟨_, _, h⟩
    obtain rfl : v = (.agg #[.string nm, .slice lp lps cp, .int .i64 rt, .slice lb lbs cb, .int .i64 pl]) := h _ rfl
    clear h
    simp only [Act.put, List.setIfInBounds_toArray, List.set_cons_succ, List.set_cons_zero]
    refine Mix.mix_step rfl (valid_of (CLr w2 (Below.refl _ _))) ?_ ?_
    · intro w b k
      clear k
      simp [go_sem]
      exact Calls.mono (CLr w b) fun e w' ⟨v, he, hb, hf⟩ => ⟨v, he, hb, fun d hd => by cases hd; exact hf⟩
    rintro p36 -
    simp only [Act.put, List.setIfInBounds_toArray, List.set_cons_succ, List.set_cons_zero]
    refine Mix.mix_step rfl (valid_eq (.bool true) rfl) ?_ ?_
    · intro w b k
      have f1 : IntsV w (placesF f) p34 := k 34 (by decide +kernel) (by simp [Mix.add]) p34 rfl
      have f2 : IntsV w (placesF f) p36 := k 36 (by decide +kernel) (by simp [Mix.add]) p36 rfl
      clear k
      simp [go_sem]
      exact Calls.mono (ints_any _ _ _ w f1 f2) fun e w' ⟨he, hb⟩ => ⟨_, he, hb, fun d hd => by cases hd; rfl⟩
    rintro v ⟨_, _, h⟩
    obtain rfl : v = (.bool true) := h _ rfl
    clear h
    simp only [Act.put, List.setIfInBounds_toArray, List.set_cons_succ, List.set_cons_zero]
    refine Mix.mix_step rfl (valid_eq (.bool false) rfl) ?_ ?_
    · intro w b k
      clear k
      simp [go_sem]
      exact ⟨Below.refl _ _, fun d hd => by cases hd; rfl⟩
    rintro v ⟨_, _, h⟩
    obtain rfl : v = (.bool false) := h _ rfl
    clear h
    simp only [Act.put, List.setIfInBounds_toArray, List.set_cons_succ, List.set_cons_zero]
    refine Mix.mix_step rfl (valid_eq (.bool false) rfl) ?_ ?_
    · intro w b k
      clear k
      simp [go_sem]
      exact ⟨Below.refl _ _, fun d hd => by cases hd; rfl⟩
    rintro v ⟨_, _, h⟩
    obtain rfl : v = (.bool false) := h _ rfl
    clear h
    simp only [Act.put, List.setIfInBounds_toArray, List.set_cons_succ, List.set_cons_zero]
    refine Mix.mix_nil ?_
    intro w3 b3 _
    have X3 := hide (X2.out.below b3)
    have HV3 := hide (HV2.out.below b3)
    have HT3 := hide (HT2.out.below b3)
    have HB3 := hide (below_step HBB.out b3)
    clear CS CSr CP CPr CO COr CL CLr xs b3 X2 HV2 HT2 HBB
    have CB : ∀ w, Below w3.heap.size w3 w → Calls Tryd.prog 22 #[(.agg #[.string nm, .slice lp lps cp, .int .i64 rt, .slice lb lbs cb, .int .i64 pl])] w fun e w' => ∃ v, e = .returned v ∧ Below w.heap.size w w' ∧ PairsV w' (backsF f) v := fun w b => (backsP_any f _ w (HV3.out.below b) HF.out HTo.out h0).mono fun e w' ⟨v, he, h, b'⟩ => ⟨v, he, b', pairs_read h⟩
    have CBr : ∀ w, Below w3.heap.size w3 w → Calls Tryd.prog 23 #[(.agg #[.string nm, .slice lp lps cp, .int .i64 rt, .slice lb lbs cb, .int .i64 pl])] w fun e w' => ∃ v, e = .returned v ∧ Below w.heap.size w w' ∧ PairsV w' (backsF f) v := fun w b => rbacks_any f _ w (HV3.out.below b) HF.out HTo.out h0
    have xs := fun (w : World) (b : Below w3.heap.size w3 w) => And.intro ((X3.out.below b).2 0 _ rfl) (And.intro ((X3.out.below b).2 1 _ rfl) (And.intro ((X3.out.below b).2 2 _ rfl) (And.intro ((X3.out.below b).2 3 _ rfl) ((X3.out.below b).2 4 _ rfl))))
    go_upto_region 5 with fail
    refine Mix.wp_region_mix (backsUp (.agg #[.string nm, .slice lp lps cp, .int .i64 rt, .slice lb lbs cb, .int .i64 pl]) f) (by kernel_rfl) (by kernel_rfl) ?_
    refine Mix.mix_step rfl (valid_eq (.agg #[.string nm, .slice lp lps cp, .int .i64 rt, .slice lb lbs cb, .int .i64 pl]) rfl) ?_ ?_
    · intro w b k
      obtain ⟨x0, x1, x2, x3, x4⟩ := xs w b
      clear k
      simp [go_sem, x0, x1, x2, x3, x4]
      exact ⟨Below.refl _ _, fun d hd => by cases hd; rfl⟩
    rintro v ⟨_, _, h⟩
    obtain rfl : v = (.agg #[.string nm, .slice lp lps cp, .int .i64 rt, .slice lb lbs cb, .int .i64 pl]) := h _ rfl
    clear h
    simp only [Act.put, List.setIfInBounds_toArray, List.set_cons_succ, List.set_cons_zero]
    refine Mix.mix_step rfl (valid_of (CB w3 (Below.refl _ _))) ?_ ?_
    · intro w b k
      clear k
      simp [go_sem]
      exact Calls.mono (CB w b) fun e w' ⟨v, he, hb, hf⟩ => ⟨v, he, hb, fun d hd => by cases hd; exact hf⟩
    rintro p41 -
    simp only [Act.put, List.setIfInBounds_toArray, List.set_cons_succ, List.set_cons_zero]
    refine Mix.mix_step rfl (valid_eq (.agg #[.string nm, .slice lp lps cp, .int .i64 rt, .slice lb lbs cb, .int .i64 pl]) rfl) ?_ ?_
    · intro w b k
      obtain ⟨x0, x1, x2, x3, x4⟩ := xs w b
      clear k
      simp [go_sem, x0, x1, x2, x3, x4]
      exact ⟨Below.refl _ _, fun d hd => by cases hd; rfl⟩
    rintro v ⟨_, _, h⟩
    obtain rfl : v = (.agg #[.string nm, .slice lp lps cp, .int .i64 rt, .slice lb lbs cb, .int .i64 pl]) := h _ rfl
    clear h
    simp only [Act.put, List.setIfInBounds_toArray, List.set_cons_succ, List.set_cons_zero]
    refine Mix.mix_step rfl (valid_of (CBr w3 (Below.refl _ _))) ?_ ?_
    · intro w b k
      clear k
      simp [go_sem]
      exact Calls.mono (CBr w b) fun e w' ⟨v, he, hb, hf⟩ => ⟨v, he, hb, fun d hd => by cases hd; exact hf⟩
    rintro p43 -
    simp only [Act.put, List.setIfInBounds_toArray, List.set_cons_succ, List.set_cons_zero]
    refine Mix.mix_step rfl (valid_of (CB w3 (Below.refl _ _))) ?_ ?_
    · intro w b k
      have f : PairsV w (backsF f) p41 := k 41 (by decide +kernel) (by simp [Mix.add]) p41 rfl
      clear k
      simp [go_sem]
      exact ⟨Below.refl _ _, fun d hd => by cases hd; exact f⟩
    rintro p3 -
    simp only [Act.put, List.setIfInBounds_toArray, List.set_cons_succ, List.set_cons_zero]
    refine Mix.mix_step rfl (valid_of (CBr w3 (Below.refl _ _))) ?_ ?_
    · intro w b k
      have f : PairsV w (backsF f) p43 := k 43 (by decide +kernel) (by simp [Mix.add]) p43 rfl
      clear k
      simp [go_sem]
      exact ⟨Below.refl _ _, fun d hd => by cases hd; exact f⟩
    rintro p4 -
    simp only [Act.put, List.setIfInBounds_toArray, List.set_cons_succ, List.set_cons_zero]
    refine Mix.mix_nil ?_
    intro w4 b4 hk
    have f3 : PairsV w4 (backsF f) p3 := hk 3 (by simp [Mix.add]) p3 rfl
    have f4 : PairsV w4 (backsF f) p4 := hk 4 (by simp [Mix.add]) p4 rfl
    have HT4 := hide (HT3.out.below b4)
    have HB4 := hide (below_step HB3.out b4)
    clear CB CBr xs b4 hk X3 HV3 HT3 HB3 h0 HF HTo
    generalize backsF f = l at *
    obtain ⟨ao3, c3, rfl, h3, hl3⟩ := f3
    obtain ⟨ao4, c4, rfl, h4, _⟩ := f4
    have H3 := hide h3
    have H4 := hide h4
    unfold maxLen at hl3
    clear h3 h4
    go_wp2_with fail
    go_loopw [5] (fun i wr => ∃ K : Nat, K ≤ l.length ∧ i = .int .i64 K ∧ Hid (Below w4.heap.size w4 wr)) (fun i _ => l.length - (intOf i).toNat)
    case atStart => exact ⟨0, Nat.zero_le _, rfl, hide (Below.refl _ _)⟩
    case round =>
      obtain ⟨K, hK, rfl, HW⟩ := hrel
      by_cases hkt : K < l.length
      · have hkI : (K : Int) < l.length := by omega
        obtain ⟨⟨x, y⟩, hp⟩ : ∃ p, l[K]? = some p := ⟨_, List.getElem?_eq_getElem hkt⟩
        rcases H3.out with e0 | ⟨g3, rfl, g3l, q3⟩
        · subst e0; simp at hkt
        rcases H4.out with e0 | ⟨g4, rfl, g4l, q4⟩
        · subst e0; simp at hkt
        obtain ⟨s1, s2⟩ := q3 K (x, y) hp
        obtain ⟨s3, s4⟩ := q4 K (x, y) hp
        have g3w : g3 < wr.heap.size := Nat.lt_of_lt_of_le g3l HW.out.size
        have g4w : g4 < wr.heap.size := Nat.lt_of_lt_of_le g4l HW.out.size
        have f1 := fun z => ((L5.grewTo_below wr z).cell (p := ⟨g3, K * 2, none⟩) g3w).trans ((HW.out.cell (p := ⟨g3, K * 2, none⟩) g3l).trans s1)
        have f2 := fun z => ((L5.grewTo_below wr z).cell (p := ⟨g3, K * 2 + 1, none⟩) g3w).trans ((HW.out.cell (p := ⟨g3, K * 2 + 1, none⟩) g3l).trans s2)
        have f5 := fun z => ((L5.grewTo_below wr z).cell (p := ⟨g4, K * 2, none⟩) g4w).trans ((HW.out.cell (p := ⟨g4, K * 2, none⟩) g4l).trans s3)
        have f6 := fun z => ((L5.grewTo_below wr z).cell (p := ⟨g4, K * 2 + 1, none⟩) g4w).trans ((HW.out.cell (p := ⟨g4, K * 2 + 1, none⟩) g4l).trans s4)
        have hq : ∀ w, (Op.equalIn 10000 44 (.agg #[.int .i64 x, .int .i64 y]) (.agg #[.int .i64 x, .int .i64 y])).run Tryd.prog w = .ok true w := fun w => by rw [eq_pair]; simp
        dsimp only at f1 f2 f5 f6
        clear q3 q4 s1 s2 s3 s4 hp
        go_wp2_with fail
        refine L5.region_grew (by kernel_rfl) (by kernel_rfl) ?_
        repeat (go_big_quiet_step (fail))
        refine wpQuiet_nil ?_
        rintro _ ⟨z, rfl⟩
        have HX := hide (below_step HW.out (L5.grewTo_below wr z))
        clear f1 f2 f5 f6
        go_wp2_with fail
        go_roundw
        case rel => exact ⟨K + 1, by omega, by go_num, HX⟩
        case measure => simp [intOf]; omega
      · obtain rfl : K = l.length := by omega
        have HW5 := hide (HWk.out wr (HT4.out.below HW.out))
        go_wp2_with fail
        refine HW5.out.mono ?_; rintro e w6 ⟨rfl, b6⟩
        have HE := hide (below_step HB4.out (below_step HW.out b6))
        clear b6
        go_wp2_with fail
        go_ret
        exact ⟨rfl, HE.out⟩
end Go.Proofs.YtfmeadbiokcboaaDoor
namespace Go.Proofs.YtfmeadbiokcboaaDoor
open Go.ChangeShapes Go.WideShapes Go.ChangeAt Go.RowKit
open L5 (word tk0 tk1 mk ds num beside letters)
theorem own : ownKnob Tryd.prog.godebug = none := by kernel_rfl
theorem laidOut : laidOutB Tryd.prog = true := by kernel_rfl
def laid1 : List (String × DataW Unit) := [("turntable/ops.rows", Rows.laid_turntable_ops_rows)]
theorem rowsNamed : Tryd.prog.globalNamed "turntable/ops.rows" = some 0 := by kernel_rfl
theorem rowsType : (Tryd.prog.globals[0]?).map (·.type) = some 90 := by kernel_rfl
theorem cq3 : Tryd.prog.cellsOf 3 = 1 := by kernel_rfl
theorem cq9 : Tryd.prog.cellsOf 9 = 1 := by kernel_rfl
theorem cq44 : Tryd.prog.cellsOf 44 = 2 := by kernel_rfl
theorem cq85 : Tryd.prog.cellsOf 85 = 5 := by kernel_rfl
/-- A row as the laid datum has it. -/
def rowD {H : Type} (k : Nat) : DataW H := .agg [.lit (.string (letters k)), .agg [.lit (.int .i64 (tk0 k)), .lit (.int .i64 (tk1 k))], .lit (.int .i64 (mk k)), .lit (.int .i64 (ds k))]
theorem laid_rows {H : Type} : (Rows.laid_turntable_ops_rows : DataW H) = .agg ((List.range 30).map rowD) := by rfl
section
variable {H : Type} {enc : TypeId × Value → H} {W : World} {base : Nat} {sp : Nat → Bool} {held : Bool}
theorem five {cs : List Value} (h : cs.length = 5) : ∃ a b c d e, cs = [a, b, c, d, e] := by
  match cs, h with
  | [a, b, c, d, e], _ => exact ⟨a, b, c, d, e, rfl⟩
theorem str_of {s : ByteArray} {bs : List UInt8} (h : s.data.toList = bs) : s = ⟨bs.toArray⟩ := by
  subst h; rfl
theorem row_cells {fuel k : Nat} {cs : List Value} {p : List MemPlace} (h : DataW.trod enc Tryd.prog W base sp held fuel 85 cs = some (rowD k, p)) :
    cs = [.string (word k), .int .i64 (tk0 k), .int .i64 (tk1 k), .int .i64 (mk k), .int .i64 (ds k)] := by
  obtain ⟨xs, n, _, hx, hl, hlen, hf⟩ := DataW.trod_struct Tryd.underlying85 h
  obtain ⟨v0, v1, v2, v3, v4, rfl⟩ := five (hl.trans cq85)
  match xs, hlen with
  | [y0, y1, y2, y3], _ =>
    have h0 : DataW.trod enc Tryd.prog W base sp held n 9 ([v0, v1, v2, v3, v4].take (Tryd.prog.cellsOf 9)) = some y0 := hf 0 _ rfl
    have h1 : DataW.trod enc Tryd.prog W base sp held n 44 ([v1, v2, v3, v4].take (Tryd.prog.cellsOf 44)) = some y1 := hf 1 _ rfl
    have h2 : DataW.trod enc Tryd.prog W base sp held n 3 ([v3, v4].take (Tryd.prog.cellsOf 3)) = some y2 := hf 2 _ rfl
    have h3 : DataW.trod enc Tryd.prog W base sp held n 3 ([v4].take (Tryd.prog.cellsOf 3)) = some y3 := hf 3 _ rfl
    rw [cq9] at h0
    rw [cq44] at h1
    rw [cq3] at h2 h3
    obtain ⟨s, e0, rfl, _⟩ := DataW.trod_string Tryd.underlying9 h0
    obtain ⟨x2, e2, rfl, _⟩ := DataW.trod_int Tryd.underlying3 h2
    obtain ⟨x3, e3, rfl, _⟩ := DataW.trod_int Tryd.underlying3 h3
    obtain ⟨zs, m, _, hz, _, hzl, each⟩ := DataW.trod_array Tryd.underlying44 h1
    match zs, hzl with
    | [z0, z1], _ =>
      have g0 := each 0 (by decide)
      have g1 := each 1 (by decide)
      simp only [cq3] at g0 g1
      simp at g0 g1
      obtain ⟨u0, f0, rfl, _⟩ := DataW.trod_int Tryd.underlying3 g0
      obtain ⟨u1, f1, rfl, _⟩ := DataW.trod_int Tryd.underlying3 g1
      subst hz
      simp [rowD] at hx e0 e2 e3 f0 f1
      obtain ⟨⟨q0, ⟨q1, q2⟩, q3, q4⟩, _⟩ := hx
      subst e0 e2 e3 f0 f1 q1 q2 q3 q4
      rw [str_of q0.symm]
      rfl
end
theorem tab_of_laid {W : World} (h : laidMetH Tryd.prog laid1 W) : Tab W := by
  rw [MakeChecks.laidMetH_plain _ _ _ (by kernel_rfl)] at h
  obtain ⟨ps, ⟨g, t, cs, fuel, p, q, hg, ht, hvar, hd, _, _⟩, _⟩ := h
  obtain rfl := Option.some.inj (rowsNamed.symm.trans hg)
  obtain rfl := Option.some.inj (rowsType.symm.trans ht)
  rw [laid_rows] at hd
  obtain ⟨xs, n, _, hx, hl, hlen, each⟩ := DataW.trod_array Tryd.underlying90 hd
  have hxs : xs.map (·.1) = (List.range 30).map rowD := by
    have := congrArg Prod.fst hx
    simpa using this.symm
  have key : ∀ k, k < 30 → (cs.toList.drop (k * 5)).take 5 = [.string (word k), .int .i64 (tk0 k), .int .i64 (tk1 k), .int .i64 (mk k), .int .i64 (ds k)] := by
    intro k hk
    have h1 := each k hk
    rw [cq85] at h1
    obtain ⟨y, hy⟩ : ∃ y, xs[k]? = some y := ⟨_, List.getElem?_eq_getElem (by omega)⟩
    have h2 := congrArg (·[k]?) hxs
    simp [hy, hk] at h2
    rw [hy] at h1
    obtain ⟨d, pl⟩ := y
    simp at h2
    subst h2
    exact row_cells h1
  have cell : ∀ k j v, k < 30 → j < 5 → ((cs.toList.drop (k * 5)).take 5)[j]? = some v → W.cell? ⟨0, k * 5 + j, none⟩ = some v := by
    intro k j v hk hj hv
    have := World.var?_cell hg hvar (k * 5 + j)
    rw [this]
    simpa [List.getElem?_take, List.getElem?_drop, hj] using hv
  refine ⟨World.block_lt_of_cell? W _ (cell 0 0 (.string (word 0)) (by omega) (by omega) (by rw [key 0 (by omega)]; rfl)), fun k hk => ?_⟩
  exact ⟨cell k 0 _ hk (by omega) (by rw [key k hk]; rfl), cell k 1 _ hk (by omega) (by rw [key k hk]; rfl), cell k 2 _ hk (by omega) (by rw [key k hk]; rfl), cell k 3 _ hk (by omega) (by rw [key k hk]; rfl), cell k 4 _ hk (by omega) (by rw [key k hk]; rfl)⟩
theorem door_met (os : Os) (args : Array Value) : laidMetH Tryd.prog laid1 ((World.doorLaid Tryd.prog 400 os).forCall (fun _ _ => 0) ⟨#[], args, []⟩).memory :=
  laidMetH_of_parts3 (fuel := 8) (laidMet_of_run' 8 (by kernel_rfl) (by kernel_rfl)) (by kernel_rfl) (by kernel_rfl)
end Go.Proofs.YtfmeadbiokcboaaDoor
