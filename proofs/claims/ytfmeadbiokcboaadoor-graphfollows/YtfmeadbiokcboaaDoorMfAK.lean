/- Layer 8, the reference: which blocks go to each block. Layer 8, memory: what lies between two borders stays; rows of rows, read. The blocks that go to each block, as lists that grow side by side. Layer 8, the program: a list turned round in its place. Layer 8, the reference: blocks behind all that follow them, as mathematics; a list behind a list of one's own. -/
import Derived.Test.YtfmeadbiokcboaaDoorMfAH
import Derived.Test.YtfmeadbiokcboaaDoorMfAJ
import Derived.RegionTactic
import Derived.ChangeAlike
import Derived.Laws.AppendOwnNone
namespace Go.Proofs.YtfmeadbiokcboaaDoor
open Go Go.RowKit
open G (Tok Er Ins Fun)
/-- The first so many blocks that go to a block. -/
def predTo (f : Fun) (b k : Nat) : List Int := ((List.range k).filter fun j => hasL (nextF f j) b).map Int.ofNat
def predsF (f : Fun) : List (List Int) := (List.range f.2.2.2.1.length).map fun b => predTo f b f.2.2.2.1.length
theorem predTo_yes {f : Fun} {b k : Nat} (h : hasL (nextF f k) b = true) : predTo f b (k + 1) = predTo f b k ++ [(k : Int)] := by
  unfold predTo; rw [List.range_succ, List.filter_append, List.map_append]; simp [h]
theorem predTo_no {f : Fun} {b k : Nat} (h : hasL (nextF f k) b = false) : predTo f b (k + 1) = predTo f b k := by
  unfold predTo; rw [List.range_succ, List.filter_append, List.map_append]; simp [h]
theorem predTo_len (f : Fun) (b k : Nat) : (predTo f b k).length ≤ k := by
  unfold predTo; rw [List.length_map]
  exact Nat.le_trans (List.length_filter_le _ _) (by simp)
theorem predsF_take {f : Fun} {b : Nat} (h : b < f.2.2.2.1.length) : (predsF f).take (b + 1) = (predsF f).take b ++ [predTo f b f.2.2.2.1.length] := by
  refine take_more ?_
  unfold predsF
  rw [List.getElem?_map, List.getElem?_range h]; rfl
theorem predsF_len (f : Fun) : (predsF f).length = f.2.2.2.1.length := by simp [predsF]
set_option maxHeartbeats 4000000 in
set_option maxRecDepth 20000 in
theorem rpreds_try (nm : List UInt8) (ps : List Int) (rt pl : Int) (bl : List (List Ins)) (ao bo : Option Addr) (c cb : Nat) (w : World)
    (hv : FunV w (nm, ps, rt, bl, pl) (.agg #[.string (bs nm), .slice ao ps.length c, .int .i64 rt, .slice bo bl.length cb, .int .i64 pl])) (hF : Ful (nm, ps, rt, bl, pl)) :
    Calls Tryd.prog 16 #[.agg #[.string (bs nm), .slice ao ps.length c, .int .i64 rt, .slice bo bl.length cb, .int .i64 pl]] w fun e w' => ∃ v, e = .returned v ∧ RowsO w.heap.size w' (predsF (nm, ps, rt, bl, pl)) v ∧ Below w.heap.size w w' := by
  obtain ⟨i0, hi0, hz0, hz1, hz2⟩ := info_parts Tryd.info22
  obtain ⟨i3, hi3, hz3, hz4, hz5⟩ := info_parts Tryd.info3
  have b0 := below_box w (.cells #[.string (bs nm), .slice ao ps.length c, .int .i64 rt, .slice bo bl.length cb, .int .i64 pl] 25)
  have X0 := hide (L5.Box.new w [.string (bs nm), .slice ao ps.length c, .int .i64 rt, .slice bo bl.length cb, .int .i64 pl] 25)
  have HV := hide (hv.below b0)
  have B0 := hide b0
  have HFu := hide hF
  have hbl : bl.length ≤ 1000000 := hF.1
  clear b0 hv hF
  go_enter Tryd.func16, Tryd.ntmps16
  go_upto_region 1 with fail
  show Code.wp _ _ _ _ (w.alloc (.cells #[.string (bs nm), .slice ao ps.length c, .int .i64 rt, .slice bo bl.length cb, .int .i64 pl] 25))
  replace X0 : Hid (L5.Box (w.alloc (.cells #[.string (bs nm), .slice ao ps.length c, .int .i64 rt, .slice bo bl.length cb, .int .i64 pl] 25)) w.heap.size [.string (bs nm), .slice ao ps.length c, .int .i64 rt, .slice bo bl.length cb, .int .i64 pl]) := X0
  generalize w.alloc (.cells #[.string (bs nm), .slice ao ps.length c, .int .i64 rt, .slice bo bl.length cb, .int .i64 pl] 25) = W at *
  go_wp2_with fail
  go_loopw [3, 4] (fun v i wr => ∃ K : Nat, K ≤ bl.length ∧ i = .int .i64 K ∧ Hid (RowsO W.heap.size wr ((predsF (nm, ps, rt, bl, pl)).take K) v) ∧ Hid (Below W.heap.size W wr)) (fun _ i _ => bl.length - (intOf i).toNat)
  case atStart => exact ⟨0, Nat.zero_le _, rfl, hide (RowsO.nil _ _), hide (Below.refl _ _)⟩
  case round =>
    obtain ⟨K, hK, rfl, HR, HW⟩ := hrel
    obtain ⟨x0, x1, x2, x3, x4⟩ : _ ∧ _ ∧ _ ∧ _ ∧ _ := ⟨(X0.out.below HW.out).2 0 _ rfl, (X0.out.below HW.out).2 1 _ rfl, (X0.out.below HW.out).2 2 _ rfl, (X0.out.below HW.out).2 3 _ rfl, (X0.out.below HW.out).2 4 _ rfl⟩
    by_cases hkt : K < bl.length
    · have hkI : (K : Int) < bl.length := by omega
      have hsk : Hid _ := hide (predsF_take (f := (nm, ps, rt, bl, pl)) hkt)
      have hlen : ((predsF (nm, ps, rt, bl, pl)).take K).length = K := by rw [List.length_take, predsF_len]; show min K bl.length = K; omega
      obtain ⟨vo, vc, rfl⟩ := HR.out.len
      go_wp2_with fail
      clear x0 x1 x2 x3 x4
      generalize wr = W2 at *
      go_loopw [5, 6] (fun v i wq => ∃ J : Nat, J ≤ bl.length ∧ i = .int .i64 J ∧ Hid (Grw W2 (predTo (nm, ps, rt, bl, pl) K J) v wq)) (fun _ i _ => bl.length - (intOf i).toNat)
      case atStart => exact ⟨0, Nat.zero_le _, rfl, hide (Grw.start _)⟩
      case round =>
        obtain ⟨J, hJ, rfl, HG⟩ := hrel
        have HWq := hide (below_step HW.out HG.out.2)
        obtain ⟨x0, x1, x2, x3, x4⟩ : _ ∧ _ ∧ _ ∧ _ ∧ _ := ⟨(X0.out.below HWq.out).2 0 _ rfl, (X0.out.below HWq.out).2 1 _ rfl, (X0.out.below HWq.out).2 2 _ rfl, (X0.out.below HWq.out).2 3 _ rfl, (X0.out.below HWq.out).2 4 _ rfl⟩
        by_cases hjt : J < bl.length
        · have hjI : (J : Int) < bl.length := by omega
          have HN := hide (next_any (nm, ps, rt, bl, pl) J _ wr (HV.out.below HWq.out) HFu.out hjt)
          have hyes := fun h => hide (predTo_yes (f := (nm, ps, rt, bl, pl)) (b := K) (k := J) h)
          have hno := fun h => hide (predTo_no (f := (nm, ps, rt, bl, pl)) (b := K) (k := J) h)
          have hpl := predTo_len (nm, ps, rt, bl, pl) K J
          generalize nextF (nm, ps, rt, bl, pl) J = l at *
          go_wp2_with fail
          refine HN.out.mono ?_; rintro e w1 ⟨u, rfl, hu, b1⟩
          obtain ⟨uo, uc, rfl, hs1, hs2, hs3⟩ := ints_of hu
          have HH := hide (rhas_any l K uo uc w1 hs1 (Nat.le_trans hs2 hs3))
          clear hs1 hs2 hs3 hu
          have HG1 : Hid (Grw W2 (predTo (nm, ps, rt, bl, pl) K J) _ w1) := hide ⟨own_below b1 _ _ _ _ _ _ HG.out.1, below_step HG.out.2 b1⟩
          clear x0 x1 x2 x3 x4
          go_wp2_with fail
          refine HH.out.mono ?_; rintro e w2 ⟨rfl, rfl⟩
          cases hh : hasL l K with
          | true =>
            have HN2 := hyes hh
            replace hh := hide hh
            have hWs := HG1.out.2.size
            go_wp2_with (at_builtin; refine wpList_append_own _ rfl (.tmp 26) (.tmp 28) 22 rfl W2.heap.size 3 i3 _ 1 8 Tryd.underlying22 hi3 hz3 hz4 hz5 rfl (by decide) _ _ _ rfl (HG1.out.1.alloc _) ⟨w2.heap.size, 0, none⟩ 1 1 [.int .i64 J] rfl rfl one_cell one_one (by unfold maxLen; omega) (by omega) (by simp; omega) ?_; intro v2 w3 own2 grow2 _)
            have HE : Hid (Grw W2 (predTo (nm, ps, rt, bl, pl) K (J + 1)) v2 w3) := hide (by rw [HN2.out]; exact HG1.out.step own2 grow2)
            clear own2 grow2
            go_wp2_with fail
            go_roundw
            case rel => exact ⟨J + 1, by omega, by go_num, HE⟩
            case measure => simp [intOf]; omega
          | false =>
            have HE : Hid (Grw W2 (predTo (nm, ps, rt, bl, pl) K (J + 1)) _ w2) := hide (by rw [(hno hh).out]; exact HG1.out)
            replace hh := hide hh
            go_wp2_with fail
            go_roundw
            case rel => exact ⟨J + 1, by omega, by go_num, HE⟩
            case measure => simp [intOf]; omega
        · obtain rfl : J = bl.length := by omega
          have HR1 := hide (HR.out.below HG.out.2)
          have HU := hide (own_base HG.out.1 HW.out.size)
          have HW1 := hide (below_step HW.out HG.out.2)
          replace hsk : Hid ((predsF (nm, ps, rt, bl, pl)).take (K + 1) = (predsF (nm, ps, rt, bl, pl)).take K ++ [predTo (nm, ps, rt, bl, pl) K bl.length]) := hsk
          clear HG
          generalize predTo (nm, ps, rt, bl, pl) K bl.length = l at *
          obtain ⟨us, ho, hus⟩ := HR1.out
          obtain ⟨uo, uc, rfl⟩ := own_len HU.out
          have hWs := HW1.out.size
          have ho2 := ho
          rw [hlen] at ho2
          go_wp2_with (at_builtin; refine wpList_append_own _ rfl (.tmp 30) (.tmp 32) 38 rfl W.heap.size 22 i0 _ 1 24 Tryd.underlying38 hi0 hz0 hz1 hz2 rfl (by decide) _ _ _ rfl (ho2.alloc _) ⟨wr.heap.size, 0, none⟩ 1 1 [.slice uo l.length uc] rfl rfl one_cell (one_any rfl) (by unfold maxLen; omega) (by omega) (by simp; omega) ?_; intro v2 w2 own2 grow2 _)
          have HE : Hid (RowsO W.heap.size w2 ((predsF (nm, ps, rt, bl, pl)).take (K + 1)) v2) := hide (by
            rw [hsk.out]
            exact RowsO.step ho hus HU.out (by rw [hlen]; exact own2) (by rw [hlen]; exact grow2))
          have HW2 : Hid (Below W.heap.size W w2) := hide (by
            refine Below.grown (HW1.out.alloc HW1.out.size _) grow2 (by simp; omega) ?_
            intro k hk
            exact (ho2.lt k hk).1)
          clear own2 grow2
          go_wp2_with fail
          go_roundw
          case rel => exact ⟨K + 1, by omega, by go_num, HE, HW2⟩
          case measure => simp [intOf]; omega
    · obtain rfl : K = bl.length := by omega
      have HE : Hid (RowsO W.heap.size wr (predsF (nm, ps, rt, bl, pl)) _) := hide (by have := HR.out; rwa [List.take_of_length_le (by rw [predsF_len]; exact Nat.le_refl _)] at this)
      have HE2 := hide (HE.out.base B0.out.size)
      go_wp2_with fail
      go_ret
      exact ⟨_, rfl, HE2.out, below_step B0.out HW.out⟩
end Go.Proofs.YtfmeadbiokcboaaDoor
namespace Go.Proofs.YtfmeadbiokcboaaDoor
open Go Go.RowKit
open G (Tok Er Ins Fun)
/-- What lay from a block on is as it was. -/
def Mid (B : Nat) (W w : World) : Prop := W.heap.size ≤ w.heap.size ∧ ∀ k, B ≤ k → k < W.heap.size → w.heap[k]? = W.heap[k]?
theorem Mid.refl (B : Nat) (W : World) : Mid B W W := ⟨Nat.le_refl _, fun _ _ _ => rfl⟩
theorem Mid.put {B : Nat} {W w : World} (h : Mid B W w) {p : Addr} (hp : p.block < B ∨ W.heap.size ≤ p.block) (u : Value) : Mid B W (w.setCell p u) :=
  ⟨by simpa using h.1, fun k h1 h2 => (Below.heap_setCell w p u k (by omega)).trans (h.2 k h1 h2)⟩
theorem Mid.alloc {B : Nat} {W w : World} (h : Mid B W w) (o : Obj) : Mid B W (w.alloc o) :=
  ⟨by have := h.1; simp; omega, fun k h1 h2 => (Below.heap_alloc w o k (by have := h.1; omega)).trans (h.2 k h1 h2)⟩
theorem Mid.grown {B : Nat} {W w w' : World} {row : Option Nat} (h : Mid B W w) (hg : w.grownBy w' row) (hr : ∀ k, row = some k → k < B ∨ W.heap.size ≤ k) : Mid B W w' :=
  ⟨Nat.le_trans h.1 hg.size, fun k h1 h2 => (hg.block k (by have := h.1; omega) (fun e => by have := hr k e.symm; omega)).trans (h.2 k h1 h2)⟩
theorem Mid.below {B : Nat} {W w w' : World} (h : Mid B W w) (b : Below w.heap.size w w') : Mid B W w' :=
  ⟨Nat.le_trans h.1 b.size, fun k h1 h2 => (b.block k (by have := h.1; omega)).trans (h.2 k h1 h2)⟩
theorem Mid.cell {B : Nat} {W w : World} (h : Mid B W w) {p : Addr} (h1 : B ≤ p.block) (h2 : p.block < W.heap.size) : w.cell? p = W.cell? p := World.cell?_of_block (w := W) (h.2 p.block h1 h2)
theorem own_mid {B e s n : Nat} {W w : World} {v : Value} {xs : List Value} (h : W.ownsRow B e s v n xs) (m : Mid B W w) : w.ownsRow B e s v n xs := by
  refine ⟨h.1, ?_⟩
  rcases h.2 with hn | ⟨g, cap, cur, rfl, hb, hgg, rest⟩
  · exact .inl hn
  · exact .inr ⟨g, cap, cur, rfl, hb, (m.2 g hb (Array.getElem?_eq_some_iff.1 hgg).1).trans hgg, rest⟩
theorem RowsO.mid {B : Nat} {W w : World} {ll : List (List Int)} {v : Value} (h : RowsO B W ll v) (m : Mid B W w) : RowsO B w ll v := by
  obtain ⟨us, h1, h2, h3⟩ := h
  refine ⟨us, own_mid h1 m, h2, fun i l hl => ?_⟩
  obtain ⟨u, k1, k2⟩ := h3 i l hl
  exact ⟨u, k1, own_mid k2 m⟩
theorem RowsO.row {B n c : Nat} {w : World} {ll : List (List Int)} {ao : Option Addr} (h : RowsO B w ll (.slice ao n c)) {K : Nat} {l : List Int} (hl : ll[K]? = some l) :
    ∃ g lo lc, ao = some ⟨g, 0, none⟩ ∧ w.cell? ⟨g, K, none⟩ = some (.slice lo l.length lc) ∧ w.ownsRow B 3 1 (.slice lo l.length lc) l.length (ints l) ∧ B ≤ g ∧ g < w.heap.size := by
  obtain ⟨us, h1, h2, h3⟩ := h
  obtain ⟨u, k1, k2⟩ := h3 K l hl
  obtain ⟨lo, lc, rfl⟩ := own_len k2
  have hK := (List.getElem?_eq_some_iff.1 hl).1
  rcases own_view h1 with ⟨_, hn⟩ | ⟨g, cap, e, q1, q2, q3, q4, q5, q6⟩
  · omega
  · injection e with e1 e2 e3
    exact ⟨g, lo, lc, e1, q5 K _ k1, k2, q3, q4⟩
theorem own_cell {B n c : Nat} {w : World} {l : List Int} {ao : Option Addr} (h : w.ownsRow B 3 1 (.slice ao n c) l.length (ints l)) {j : Nat} {m : Int} (hm : l[j]? = some m) :
    ∃ g, ao = some ⟨g, 0, none⟩ ∧ w.cell? ⟨g, j, none⟩ = some (.int .i64 m) ∧ g < w.heap.size := by
  have hj := (List.getElem?_eq_some_iff.1 hm).1
  rcases own_view h with ⟨_, hn⟩ | ⟨g, cap, e, q1, q2, q3, q4, q5, q6⟩
  · omega
  · injection e with e1 e2 e3
    exact ⟨g, e1, q5 j _ (ints_at hm), q4⟩
theorem once_nodup (l : List Int) : (onceL l).Nodup := by
  have key : ∀ (l acc : List Int), acc.Nodup → (l.foldl addL acc).Nodup := by
    intro l
    induction l with
    | nil => intro acc h; exact h
    | cons m l ih =>
      intro acc h
      rw [List.foldl_cons]
      refine ih _ ?_
      cases hh : hasL acc m with
      | true => rw [addL_yes hh]; exact h
      | false =>
        rw [addL_no hh]
        refine List.nodup_append.2 ⟨h, by simp, ?_⟩
        rintro x hx y hy rfl
        simp at hy
        subst hy
        rw [hasL_mem.2 hx] at hh
        cases hh
  exact key l [] List.nodup_nil
theorem take_fresh {l : List Int} (h : l.Nodup) {j : Nat} {m : Int} (hm : l[j]? = some m) : hasL (l.take j) m = false := by
  cases hh : hasL (l.take j) m with
  | false => rfl
  | true =>
    exfalso
    have h1 := hasL_mem.1 hh
    obtain ⟨i, hi, e⟩ := List.mem_iff_getElem.1 h1
    have hij : i < j := by rw [List.length_take] at hi; omega
    obtain ⟨hj, e2⟩ := List.getElem?_eq_some_iff.1 hm
    rw [List.getElem_take] at e
    exact absurd ((List.getElem_inj h).1 (e.trans e2.symm)) (by omega)
/-- The blocks that go to each block, from those ahead of one, and from it to some. -/
def pRows (f : Fun) (K : Nat) (acc : List Int) : List (List Int) := (List.range f.2.2.2.1.length).map fun (b : Nat) => predTo f b K ++ (if hasL acc b then [(K : Int)] else [])
theorem pRows_len (f : Fun) (K : Nat) (acc : List Int) : (pRows f K acc).length = f.2.2.2.1.length := by simp [pRows]
theorem pRows_at {f : Fun} (K : Nat) (acc : List Int) {M : Nat} (hM : M < f.2.2.2.1.length) : (pRows f K acc)[M]? = some (predTo f M K ++ (if hasL acc M then [(K : Int)] else [])) := by
  unfold pRows; rw [List.getElem?_map, List.getElem?_range hM]; rfl
theorem pRows_start (f : Fun) : pRows f 0 [] = List.replicate f.2.2.2.1.length [] := by
  apply List.ext_getElem?
  intro j
  rw [List.getElem?_replicate]
  by_cases hj : j < f.2.2.2.1.length
  · rw [pRows_at _ _ hj, if_pos hj]; simp [predTo, hasL]
  · rw [if_neg hj, List.getElem?_eq_none (by rw [pRows_len]; omega)]
theorem pRows_put {f : Fun} {K M : Nat} {acc : List Int} (hM : M < f.2.2.2.1.length) : (pRows f K acc).set M (predTo f M K ++ [(K : Int)]) = pRows f K (acc ++ [(M : Int)]) := by
  apply List.ext_getElem?
  intro j
  rw [List.getElem?_set, pRows_len]
  by_cases hj : j < f.2.2.2.1.length
  · rw [pRows_at _ _ hj, pRows_at _ _ hj]
    by_cases e : M = j
    · subst e
      rw [if_pos rfl, if_pos hM, hasL_snoc]; simp
    · have e2 : ¬ (M : Int) = (j : Int) := by omega
      rw [if_neg e, hasL_snoc]; simp [e2]
  · have n1 : ∀ acc, (pRows f K acc)[j]? = none := fun acc => List.getElem?_eq_none (by rw [pRows_len]; omega)
    rw [n1, n1]
    by_cases e : M = j
    · omega
    · rw [if_neg e]
theorem pRows_next (f : Fun) (K : Nat) : pRows f K (nextF f K) = pRows f (K + 1) [] := by
  apply List.ext_getElem?
  intro j
  by_cases hj : j < f.2.2.2.1.length
  · rw [pRows_at _ _ hj, pRows_at _ _ hj]
    cases hh : hasL (nextF f K) j with
    | true => rw [predTo_yes hh]; simp [hasL]
    | false => rw [predTo_no hh]; simp [hasL]
  · rw [List.getElem?_eq_none (by rw [pRows_len]; omega), List.getElem?_eq_none (by rw [pRows_len]; omega)]
theorem pRows_end (f : Fun) : pRows f f.2.2.2.1.length [] = predsF f := by
  unfold pRows predsF
  apply List.map_congr_left
  intro b _
  simp [hasL]
end Go.Proofs.YtfmeadbiokcboaaDoor
namespace Go.Proofs.YtfmeadbiokcboaaDoor
open Go Go.RowKit
/-- A list whose first and last so many are turned round. -/
def revAt (l : List Int) (i : Nat) : List Int := (List.range l.length).map fun p => if p < i ∨ l.length ≤ p + i then l.getD (l.length - 1 - p) 0 else l.getD p 0
theorem revAt_len (l : List Int) (i : Nat) : (revAt l i).length = l.length := by simp [revAt]
theorem revAt_at {l : List Int} (i : Nat) {p : Nat} (hp : p < l.length) : (revAt l i)[p]? = some (if p < i ∨ l.length ≤ p + i then l.getD (l.length - 1 - p) 0 else l.getD p 0) := by
  unfold revAt; rw [List.getElem?_map, List.getElem?_range hp]; rfl
theorem revAt_zero (l : List Int) : revAt l 0 = l := by
  apply List.ext_getElem?
  intro p
  by_cases hp : p < l.length
  · rw [revAt_at _ hp, if_neg (by omega), List.getElem?_eq_getElem hp, List.getD_eq_getElem?_getD, List.getElem?_eq_getElem hp]; rfl
  · rw [List.getElem?_eq_none (by rw [revAt_len]; omega), List.getElem?_eq_none (by omega)]
theorem revAt_end {l : List Int} {i : Nat} (h : l.length ≤ 2 * i + 1) : revAt l i = l.reverse := by
  apply List.ext_getElem?
  intro p
  by_cases hp : p < l.length
  · rw [revAt_at _ hp, List.getElem?_reverse hp, List.getElem?_eq_getElem (by omega : l.length - 1 - p < l.length)]
    congr 1
    by_cases e : p < i ∨ l.length ≤ p + i
    · rw [if_pos e, List.getD_eq_getElem?_getD, List.getElem?_eq_getElem (by omega : l.length - 1 - p < l.length)]; rfl
    · rw [if_neg e, List.getD_eq_getElem?_getD, List.getElem?_eq_getElem hp]
      have e2 : l.length - 1 - p = p := by omega
      simp only [e2]; rfl
  · rw [List.getElem?_eq_none (by rw [revAt_len]; omega), List.getElem?_eq_none (by rw [List.length_reverse]; omega)]
theorem revAt_step {l : List Int} {i j : Nat} {x y : Int} (hj : j = l.length - 1 - i) (hij : i < j) (hx : (revAt l i)[i]? = some x) (hy : (revAt l i)[j]? = some y) : ((revAt l i).set i y).set j x = revAt l (i + 1) := by
  have hi : i < l.length := by omega
  have hjl : j < l.length := by omega
  rw [revAt_at _ hi, if_neg (by omega)] at hx
  rw [revAt_at _ hjl, if_neg (by omega)] at hy
  injection hx with hx
  injection hy with hy
  subst hx hy
  apply List.ext_getElem?
  intro p
  rw [List.getElem?_set, List.getElem?_set, List.length_set, revAt_len]
  by_cases hp : p < l.length
  · rw [revAt_at _ hp, revAt_at _ hp]
    by_cases e1 : j = p
    · subst e1
      rw [if_pos rfl, if_pos hjl, if_pos (by omega)]
      have e2 : l.length - 1 - j = i := by omega
      rw [e2]
    · rw [if_neg e1]
      by_cases e2 : i = p
      · subst e2
        rw [if_pos rfl, if_pos hi, if_pos (by omega), hj]
      · rw [if_neg e2]
        by_cases e3 : p < i ∨ l.length ≤ p + i
        · rw [if_pos e3, if_pos (by omega)]
        · rw [if_neg e3, if_neg (by omega)]
  · rw [if_neg (by omega), if_neg (by omega), List.getElem?_eq_none (by rw [revAt_len]; omega), List.getElem?_eq_none (by rw [revAt_len]; omega)]
theorem own_set2 {B g n c i j : Nat} {w : World} {l : List Int} {x y : Int} (h : w.ownsRow B 3 1 (.slice (some ⟨g, 0, none⟩) n c) n (ints l)) : ((w.setCell ⟨g, i, none⟩ (.int .i64 y)).setCell ⟨g, j, none⟩ (.int .i64 x)).drew.ownsRow B 3 1 (.slice (some ⟨g, 0, none⟩) n c) n (ints ((l.set i y).set j x)) := by
  rw [← ints_set, ← ints_set]
  exact own_below (L5.below_drew1 _) _ _ _ _ _ _ (World.ownsRow.stored (World.ownsRow.stored h i (.int .i64 y)).1 j (.int .i64 x)).1
set_option maxHeartbeats 4000000 in
set_option maxRecDepth 20000 in
theorem reverse_any (l r : List Int) (hr : l.reverse = r) (B g c : Nat) (w : World) (h : w.ownsRow B 3 1 (.slice (some ⟨g, 0, none⟩) l.length c) l.length (ints l)) (hl : l.length ≤ 1000000) :
    Calls Tryd.prog 42 #[.slice (some ⟨g, 0, none⟩) l.length c] w fun e w' => e = .returned (.tuple #[]) ∧ w'.ownsRow B 3 1 (.slice (some ⟨g, 0, none⟩) l.length c) l.length (ints r) ∧ Below B w w' := by
  have hB : B ≤ g := (h.lt g rfl).1
  replace hr := hide hr
  have H0 : Hid (w.ownsRow B 3 1 (.slice (some ⟨g, 0, none⟩) l.length c) l.length (ints (revAt l 0))) := hide (by rw [revAt_zero]; exact h)
  clear h
  go_enter Tryd.func42, Tryd.ntmps42
  go_wp2_with fail
  go_loopw [2, 3] (fun i j wr => ∃ I : Nat, 2 * I ≤ l.length ∧ i = .int .i64 I ∧ j = .int .i64 ((l.length : Int) - 1 - I) ∧ Hid (wr.ownsRow B 3 1 (.slice (some ⟨g, 0, none⟩) l.length c) l.length (ints (revAt l I))) ∧ Hid (Below B w wr)) (fun i j _ => (intOf j - intOf i).toNat)
  case atStart => exact ⟨0, by omega, rfl, by go_num, H0, hide (Below.refl _ _)⟩
  case round =>
    clear H0
    obtain ⟨I, hI, rfl, rfl, HO, HW⟩ := hrel
    by_cases hlt : 2 * I + 1 < l.length
    · obtain ⟨J, hJ⟩ : ∃ J, J = l.length - 1 - I := ⟨_, rfl⟩
      have hJI : (l.length : Int) - 1 - I = (J : Int) := by omega
      have hIJ : (I : Int) < (J : Int) := by omega
      have hJl : (J : Int) < l.length := by omega
      have hIl : (I : Int) < l.length := by omega
      obtain ⟨x, hx⟩ : ∃ x, (revAt l I)[I]? = some x := ⟨_, List.getElem?_eq_getElem (by rw [revAt_len]; omega)⟩
      obtain ⟨y, hy⟩ : ∃ y, (revAt l I)[J]? = some y := ⟨_, List.getElem?_eq_getElem (by rw [revAt_len]; omega)⟩
      have c1 : wr.cell? ⟨g, I, none⟩ = some (.int .i64 x) := by rw [World.ownsRow.cellAt HO.out I (by omega)]; exact ints_at hx
      have c2 : wr.cell? ⟨g, J, none⟩ = some (.int .i64 y) := by rw [World.ownsRow.cellAt HO.out J (by omega)]; exact ints_at hy
      have f1 := World.ownsRow.frozenAt HO.out I
      have f2 := World.ownsRow.frozenAt HO.out J
      have HR := hide (revAt_step hJ (by omega) hx hy)
      rw [hJI]
      clear hx hy hJ
      go_wp2_with fail
      go_region
      have HE : Hid (((wr.setCell ⟨g, I, none⟩ (.int .i64 y)).setCell ⟨g, J, none⟩ (.int .i64 x)).drew.ownsRow B 3 1 (.slice (some ⟨g, 0, none⟩) l.length c) l.length (ints (revAt l (I + 1)))) := hide (by rw [← HR.out]; exact own_set2 HO.out)
      have HE2 : Hid (Below B w ((wr.setCell ⟨g, I, none⟩ (.int .i64 y)).setCell ⟨g, J, none⟩ (.int .i64 x)).drew) := hide (((HW.out.setCell (p := ⟨g, I, none⟩) hB _).setCell (p := ⟨g, J, none⟩) hB _).drew)
      go_wp2_with fail
      go_roundw
      case rel => exact ⟨I + 1, by omega, by go_num, by rw [← hJI]; go_num, HE, HE2⟩
      case measure => simp [intOf]; omega
    · have hnl : ¬ (I : Int) < (l.length : Int) - 1 - I := by omega
      have HE : Hid (wr.ownsRow B 3 1 (.slice (some ⟨g, 0, none⟩) l.length c) l.length (ints r)) := hide (by rw [← hr.out, ← revAt_end (i := I) (by omega)]; exact HO.out)
      go_wp2_with fail
      go_end0
      exact ⟨rfl, HE.out, HW.out⟩
end Go.Proofs.YtfmeadbiokcboaaDoor
namespace Go.Proofs.YtfmeadbiokcboaaDoor
open Go Go.RowKit
open G (Tok Er Ins Fun)
/-- Numbers below a bound, none twice: no more than the bound. -/
def Num (n : Nat) (l : List Int) : Prop := ∀ m ∈ l, 0 ≤ m ∧ m < n
theorem fit_len : ∀ (n : Nat) (l : List Int), l.Nodup → Num n l → l.length ≤ n := by
  intro n
  induction n with
  | zero =>
    intro l _ h
    cases l with
    | nil => simp
    | cons m l => have := h m (by simp); omega
  | succ n ih =>
    intro l hn h
    have h1 := ih (l.erase (n : Int)) (hn.erase _) (fun m hm => by
      have h2 := (hn.mem_erase_iff).1 hm
      have h3 := h m h2.2
      have h4 : m ≠ (n : Int) := h2.1
      omega)
    have h2 := List.length_erase (a := (n : Int)) (l := l)
    split at h2 <;> omega
def postF (f : Fun) : Nat → Int → List Int → List Int → List Int
  | 0, _, done, _ => done
  | N + 1, k, done, op => (nextF f k.toNat).foldl (fun out m => if hasL out m || hasL (op ++ [k]) m then out else postF f N m out (op ++ [k])) done ++ [k]
def stepF (f : Fun) (N : Nat) (path out : List Int) (m : Int) : List Int := if hasL out m || hasL path m then out else postF f N m out path
def walkF (f : Fun) (N : Nat) (path done l : List Int) : List Int := l.foldl (stepF f N path) done
theorem postF_succ (f : Fun) (N : Nat) (k : Int) (done op : List Int) : postF f (N + 1) k done op = walkF f N (op ++ [k]) done (nextF f k.toNat) ++ [k] := rfl
theorem walkF_take {f : Fun} {N : Nat} {path done l : List Int} {i : Nat} {m : Int} (h : l[i]? = some m) : walkF f N path done (l.take (i + 1)) = stepF f N path (walkF f N path done (l.take i)) m := by
  unfold walkF; rw [take_more h, List.foldl_append]; rfl
theorem stepF_no {f : Fun} {N : Nat} {path out : List Int} {m : Int} (h : hasL out m = true ∨ hasL path m = true) : stepF f N path out m = out := by
  unfold stepF; rcases h with h | h <;> simp [h]
theorem stepF_yes {f : Fun} {N : Nat} {path out : List Int} {m : Int} (h1 : hasL out m = false) (h2 : hasL path m = false) : stepF f N path out m = postF f N m out path := by
  unfold stepF; simp [h1, h2]
/-- Every label is a block's. -/
def Tos (f : Fun) : Prop := ∀ j, Num f.2.2.2.1.length (nextF f j)
/-- What is put behind a list: none of it twice, none of it of that list or of another. -/
def Ext (n : Nat) (done op out : List Int) : Prop := ∃ e, out = done ++ e ∧ e.Nodup ∧ ∀ m ∈ e, (0 ≤ m ∧ m < n) ∧ m ∉ done ∧ m ∉ op
theorem Ext.refl (n : Nat) (done op : List Int) : Ext n done op done := ⟨[], by simp, List.nodup_nil, by simp⟩
theorem Ext.trans {n : Nat} {a b c op : List Int} (h : Ext n a op b) (k : Ext n b op c) : Ext n a op c := by
  obtain ⟨e, rfl, h1, h2⟩ := h
  obtain ⟨d, rfl, k1, k2⟩ := k
  refine ⟨e ++ d, by simp, List.nodup_append.2 ⟨h1, k1, ?_⟩, ?_⟩
  · rintro x hx y hy rfl
    exact (k2 x hy).2.1 (by simp [hx])
  · intro m hm
    rcases List.mem_append.1 hm with hm | hm
    · exact h2 m hm
    · exact ⟨(k2 m hm).1, fun h => (k2 m hm).2.1 (by simp [h]), (k2 m hm).2.2⟩
theorem Ext.one {n : Nat} {a b op : List Int} {k : Int} (h : Ext n a (op ++ [k]) b) (hk : 0 ≤ k ∧ k < n) (ha : k ∉ a) (ho : k ∉ op) : Ext n a op (b ++ [k]) := by
  obtain ⟨e, rfl, h1, h2⟩ := h
  refine ⟨e ++ [k], by simp, List.nodup_append.2 ⟨h1, by simp, ?_⟩, ?_⟩
  · rintro x hx y hy rfl
    simp at hy
    exact (h2 x hx).2.2 (by simp [hy])
  · intro m hm
    rcases List.mem_append.1 hm with hm | hm
    · exact ⟨(h2 m hm).1, (h2 m hm).2.1, fun h => (h2 m hm).2.2 (by simp [h])⟩
    · simp at hm; subst hm; exact ⟨hk, ha, ho⟩
theorem hasL_no {l : List Int} {n : Int} : hasL l n = false ↔ n ∉ l := by
  rw [← hasL_mem]; simp
theorem post_ext {f : Fun} (hT : Tos f) : ∀ (N : Nat) (k : Int) (done op : List Int), (0 ≤ k ∧ k < f.2.2.2.1.length) → k ∉ done → k ∉ op → Ext f.2.2.2.1.length done op (postF f N k done op) := by
  intro N
  induction N with
  | zero => intro k done op _ _ _; exact Ext.refl _ _ _
  | succ N ih =>
    intro k done op hk hd ho
    rw [postF_succ]
    refine Ext.one ?_ hk hd ho
    have key : ∀ (l out : List Int), Num f.2.2.2.1.length l → Ext f.2.2.2.1.length done (op ++ [k]) out → Ext f.2.2.2.1.length done (op ++ [k]) (walkF f N (op ++ [k]) out l) := by
      intro l
      induction l with
      | nil => intro out _ h; exact h
      | cons m l ih2 =>
        intro out hl h
        refine ih2 _ (fun x hx => hl x (by simp [hx])) ?_
        by_cases hc : hasL out m = true ∨ hasL (op ++ [k]) m = true
        · rw [stepF_no hc]; exact h
        · have hc1 : hasL out m = false := by simpa using fun e => hc (.inl e)
          have hc2 : hasL (op ++ [k]) m = false := by simpa using fun e => hc (.inr e)
          rw [stepF_yes hc1 hc2]
          exact h.trans (ih m out (op ++ [k]) (hl m (by simp)) (hasL_no.1 hc1) (hasL_no.1 hc2))
    exact key _ _ (hT _) (Ext.refl _ _ _)
theorem walk_ext {f : Fun} (hT : Tos f) (N : Nat) (path done : List Int) : ∀ (l out : List Int), Num f.2.2.2.1.length l → Ext f.2.2.2.1.length done path out → Ext f.2.2.2.1.length done path (walkF f N path out l) := by
  intro l
  induction l with
  | nil => intro out _ h; exact h
  | cons m l ih2 =>
    intro out hl h
    refine ih2 _ (fun x hx => hl x (by simp [hx])) ?_
    by_cases hc : hasL out m = true ∨ hasL path m = true
    · rw [stepF_no hc]; exact h
    · have hc1 : hasL out m = false := by simpa using fun e => hc (.inl e)
      have hc2 : hasL path m = false := by simpa using fun e => hc (.inr e)
      rw [stepF_yes hc1 hc2]
      exact h.trans (post_ext hT N m out path (hl m (by simp)) (hasL_no.1 hc1) (hasL_no.1 hc2))
theorem Ext.num {n : Nat} {done op out : List Int} (h : Ext n done op out) (hd : done.Nodup) (hn : Num n done) : out.Nodup ∧ Num n out := by
  obtain ⟨e, rfl, h1, h2⟩ := h
  refine ⟨List.nodup_append.2 ⟨hd, h1, ?_⟩, ?_⟩
  · rintro x hx y hy rfl
    exact (h2 x hy).2.1 hx
  · intro m hm
    rcases List.mem_append.1 hm with hm | hm
    · exact hn m hm
    · exact (h2 m hm).1
theorem oneCell_ints (l : List Int) : ∀ u ∈ ints l, u.oneCell' = true := by
  intro u hu
  obtain ⟨m, _, rfl⟩ := List.mem_map.1 hu
  rfl
/-- A list of numbers behind a list of one's own. -/
theorem append_ints {w : World} {ops : Array Oper} {rest : List Oper} {o : Oper} {a : Act} {Q : Exit → Act → World → Prop} (hgd : o.guard = none) (s x : Operand)
    (ho : o.op = .call { callee := .builtin .append, args := #[s, x], argTypes := #[22, 22] }) (base B : Nat) (v vx : Value) (n : Nat) (xs : List Value) (l : List Int)
    (hs : a.eval s = v) (hown : w.ownsRow base 3 1 v n xs) (hx : a.eval x = vx) (hl : w.ownsRow B 3 1 vx l.length (ints l)) (h63 : n + l.length ≤ 4000000) (hbase : base ≤ w.heap.size)
    (h : ∀ v' w', w'.ownsRow base 3 1 v' (n + l.length) (xs ++ ints l) → w.grownBy w' v.ownBlock → wpList Tryd.prog ops Q rest (a.put o.dst v') w') : wpList Tryd.prog ops Q (o :: rest) a w := by
  obtain ⟨i0, hi0, hz0, hz1, hz2⟩ := info_parts Tryd.info3
  rcases own_view hl with ⟨rfl, hn⟩ | ⟨g, cap, rfl, h1, h2, h3, h4, h5, h6⟩
  · refine wpList_append_own_none hgd s x 22 ho base 3 i0 1 Tryd.underlying22 hi0 v n xs hs hown hx ?_
    refine h v w ?_ (World.grownBy.refl _ _)
    have e : l = [] := List.length_eq_zero_iff.1 hn
    subst e
    simpa [ints] using hown
  · refine wpList_append_own w hgd s x 22 ho base 3 i0 _ 1 8 Tryd.underlying22 hi0 hz0 hz1 hz2 rfl (by decide) v n xs hs hown ⟨g, 0, none⟩ l.length cap (ints l) hx (by simp [ints]) ?_ (oneCell_ints l) (by unfold maxLen; omega) (by omega) hbase ?_
    · intro j u hj
      rw [Addr.add_lit, Nat.zero_add]
      exact h5 j u hj
    · intro v' w' k1 k2 _
      exact h v' w' k1 k2
end Go.Proofs.YtfmeadbiokcboaaDoor
