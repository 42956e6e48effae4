/- Layer 9, the program: the kids of all blocks, the greatest one first. -/
import Derived.Test.YtnlcpfijfjbgjaaOrBA
import Derived.RangeFuncNested
import Derived.RangeFuncWrites
namespace Go.Proofs.Ytnlcpfijfjbgjaa
open Go Go.RowKit Go.Shelf
open G (Tok Er Ins Fun)
/-- None of some operations puts off a call. -/
def noDefer (ops : Array Oper) : Bool := ops.toList.all fun o => match o.op with
  | .defer _ => false
  | _ => true
theorem noDefer_at {ops : Array Oper} (h : noDefer ops = true) {i : Nat} {o : Oper} (ho : ops[i]? = some o) : ∀ c, o.op ≠ .defer c := by
  intro c hc
  unfold noDefer at h
  have := List.all_eq_true.1 h o (by rw [← Array.getElem?_toList] at ho; exact List.mem_of_getElem? ho)
  rw [hc] at this
  cases this
theorem op_round {F : Fence} {n l : Nat} {P : Program} {ops : Array Oper} {Q : Exit → Act → World → Prop} (hro : F.round = none) (hnd : noDefer ops = true) {i : Nat} {K K' : Act → World → Prop} {a : Act} {w : World} (hK : ∀ a w, K a w → K' a w)
    (h : wpOpIn F n P ops Q i K a w) : wpOpIn (F.inRound l) n P ops Q i K' a w := by
  unfold wpOpIn at h ⊢
  cases ho : ops[i]? with
  | none => rw [ho] at h; exact hK _ _ h
  | some o =>
    rw [ho] at h
    simp only at h ⊢
    by_cases hw : Region.wanted o (yielded ops a.tmps) = true
    · rw [if_pos hw] at h ⊢
      unfold Oper.wpIn at h ⊢
      refine ⟨h.1, ?_⟩
      have h2 := h.2
      rw [hro, Oper.semAt_none] at h2
      rw [Fence.inRound_round, Oper.semAt_some l a.eval o (noDefer_at hnd ho)]
      generalize (execOp a.eval o).run P w = r at *
      cases r with
      | ok x w' =>
        cases x <;> simp only [Oper.uponIn] at h2 ⊢
        case value v => exact hK _ _ h2
        case skip => exact hK _ _ h2
        case defer d => exact hK _ _ h2
        case enter f args => exact ⟨h2.1, CallsIn.inRound l (CallsIn.mono h2.2 (fun e w'' he => by cases e <;> first | exact hK _ _ he | exact he))⟩
        case row row args => exact ⟨h2.1, RowsIn.mono h2.2 (fun _ _ he => hK _ _ he)⟩
        case round l' f tmps assign body => exact ⟨h2.1, RoundIn.mono h2.2 (fun e w'' he => by cases e <;> first | exact hK _ _ he | exact he)⟩
        all_goals exact h2
      | halt s w' => cases s <;> simp only [Oper.uponIn] at h2 ⊢ <;> exact h2
    · rw [if_neg hw] at h ⊢
      exact ⟨h.1, hK _ _ h.2⟩
/-- A region without deferred calls is in a round what it is without. -/
theorem any_round {F : Fence} {n l : Nat} {P : Program} {md : Region.Mode} {ops : Array Oper} {Q : Exit → Act → World → Prop} (hro : F.round = none) (hnd : noDefer ops = true) :
    ∀ (fuel : Nat) (listed : Array Bool) (a : Act) (w : World), wpAnyIn F n P md ops Q fuel listed a w → wpAnyIn (F.inRound l) n P md ops Q fuel listed a w := by
  intro fuel
  induction fuel with
  | zero => intro listed a w h; exact h
  | succ fuel ih => intro listed a w h; exact ⟨h.1, fun i hi => op_round hro hnd (ih _) (h.2 i hi)⟩
theorem stepIn_run {F : Fence} {n : Nat} {P : Program} {ops : Array Oper} {o : Oper} {a : Act} {w : World} {K : Act → World → Prop} {Q : Exit → Act → World → Prop} {E : Prop} (hgd : o.guard = none) (s x : Operand) (t : TypeId)
    (ho : o.op = .call { callee := .builtin .append, args := #[s, x], argTypes := #[t, t] }) (v vx : Value) (hs : a.eval s = v) (hx : a.eval x = vx) (v2 : Value) (w2 : World) (hr : (Builtin.append_ #[t, t] o.type #[v, vx]).run P w = .ok v2 w2)
    (h : K (a.put o.dst v2) w2) : if Region.wanted o (yielded ops a.tmps) = true then Oper.wpIn F n P o a w K Q else E := by
  have hw : Region.wanted o (yielded ops a.tmps) = true := by simp [Region.wanted, hgd]
  rw [if_pos hw]
  unfold Oper.wpIn
  refine ⟨by simp [Oper.about, ho, resolve, Target.leads, Sem.run_pure], ?_⟩
  rw [Oper.semAt_plain F _ _ (by rw [ho]; intro c hc'; cases hc')]
  simp [execOp, ho, resolve, invoke, builtin, hs, hx, hr, Result.andThen]
  exact h
theorem upB_nat {ll : List (List Int)} (hg : Gr ll) {b : Int} (h : upB ll b ≠ -1) : ∃ U : Nat, upB ll b = (U : Int) ∧ U < ll.length := by
  have h0 : b ≠ 0 := by rintro rfl; exact h (upB_no hg fun _ => IsUp.not_first)
  obtain ⟨a, ha⟩ := IsUp.ex hg ((all_up hg b).2 (.inr h)) h0
  have hn := ha.2.1.1.num hg
  exact ⟨a.toNat, by rw [upB_eq hg ha]; omega, by omega⟩
/-- The kids of each block among some, in their order. -/
def kRows (ll : List (List Int)) (pre : List (Blk ll.length)) : List (List Int) := (List.range ll.length).map fun (b : Nat) => (pre.filter fun x => decide (upB ll x.1 = (b : Int))).map fun x => ((x.1 : Nat) : Int)
theorem kRows_len (ll : List (List Int)) (pre : List (Blk ll.length)) : (kRows ll pre).length = ll.length := by simp [kRows]
theorem kRows_at {ll : List (List Int)} (pre : List (Blk ll.length)) {b : Nat} (h : b < ll.length) : (kRows ll pre)[b]? = some ((pre.filter fun x => decide (upB ll x.1 = (b : Int))).map fun x => ((x.1 : Nat) : Int)) := by
  unfold kRows; rw [List.getElem?_map, List.getElem?_range h]; rfl
theorem kRows_nil (ll : List (List Int)) : kRows ll [] = List.replicate ll.length [] := by
  apply List.ext_getElem?
  intro j
  rw [List.getElem?_replicate]
  by_cases hj : j < ll.length
  · rw [kRows_at _ hj, if_pos hj]; rfl
  · rw [if_neg hj, List.getElem?_eq_none (by rw [kRows_len]; omega)]
theorem kRows_put {ll : List (List Int)} {pre : List (Blk ll.length)} {x : Blk ll.length} {U : Nat} {row : List Int} (hU : upB ll x.1 = (U : Int)) (hl : U < ll.length) (hr : (kRows ll pre)[U]? = some row) : (kRows ll pre).set U (row ++ [((x.1 : Nat) : Int)]) = kRows ll (pre ++ [x]) := by
  apply List.ext_getElem?
  intro j
  rw [List.getElem?_set, kRows_len]
  by_cases hj : j < ll.length
  · rw [kRows_at _ hj, kRows_at _ hj, List.filter_append, List.map_append]
    by_cases e : U = j
    · subst e
      rw [kRows_at _ hj] at hr
      injection hr with hr
      rw [if_pos rfl, if_pos hj, ← hr]
      simp [hU]
    · have e2 : ¬ (U : Int) = (j : Int) := by omega
      rw [if_neg e]
      simp [hU, e2]
  · rw [List.getElem?_eq_none (by rw [kRows_len]; omega), List.getElem?_eq_none (by rw [kRows_len]; omega)]
    by_cases e : U = j
    · omega
    · rw [if_neg e]
theorem kRows_skip {ll : List (List Int)} {pre : List (Blk ll.length)} {x : Blk ll.length} (hU : upB ll x.1 = -1) : kRows ll (pre ++ [x]) = kRows ll pre := by
  unfold kRows
  apply List.map_congr_left
  intro b _
  rw [List.filter_append, List.map_append]
  have e2 : ¬ (-1 : Int) = (b : Int) := by omega
  simp [hU, e2]
theorem kRows_small (ll : List (List Int)) (pre : List (Blk ll.length)) {U : Nat} {row : List Int} (hr : (kRows ll pre)[U]? = some row) : row.length ≤ pre.length := by
  have hU : U < ll.length := by have := (List.getElem?_eq_some_iff.1 hr).1; rw [kRows_len] at this; exact this
  rw [kRows_at _ hU] at hr
  injection hr with hr
  subst hr
  rw [List.length_map]
  exact List.length_filter_le _ _
/-- The kids of each block, the greatest one first. -/
def fallL (ll : List (List Int)) : List (List Int) := (List.range ll.length).map fun (b : Nat) => (kidsB ll b).reverse
theorem kRows_all {ll : List (List Int)} {pre : List (Blk ll.length)} (h : pre.map (·.1) = (List.range ll.length).reverse) : kRows ll pre = fallL ll := by
  unfold kRows fallL
  apply List.map_congr_left
  intro b _
  have e1 : (pre.filter fun x => decide (upB ll x.1 = (b : Int))).map (fun x => ((x.1 : Nat) : Int)) = ((pre.map (·.1)).filter fun (k : Nat) => decide (upB ll (k : Int) = (b : Int))).map Int.ofNat := by
    rw [List.filter_map, List.map_map]; rfl
  rw [e1, h]
  unfold kidsB kidsTo
  rw [List.filter_reverse, List.map_reverse]
  congr 2
/-- Rounds under way: the box, the row of lists, the lists. -/
def FalW (w : World) (ll : List (List Int)) (g1 Bx Bk : Nat) (pre : List (Blk ll.length)) (W : World) : Prop := Boxed W Bx 50 (.slice (some ⟨g1, 0, none⟩) ll.length ll.length) ∧ (∃ us, RowAt W w.heap.size 22 g1 ll.length us ∧ RowsS Bk W (kRows ll pre) us) ∧ Below w.heap.size w W ∧ Bk ≤ W.heap.size
theorem FalW.own (w : World) (ll : List (List Int)) (g1 Bx Bk B : Nat) (hB : w.heap.size ≤ B) : OwnFrom B (FalW w ll g1 Bx Bk) := by
  rintro pre A C row ⟨h1, ⟨us, h2, h3⟩, h4, h5⟩ hg hr
  have far : ∀ (e : TypeId) (s base n : Nat) (v : Value) (xs : List Value), A.ownsRow base e s v n xs → v.ownBlock = none ∨ v.ownBlock ≠ row := by
    intro e s base n v xs hv
    rcases hv.2 with ⟨rfl, _⟩ | ⟨g, cap, cur, rfl, _, hgb, _⟩
    · exact .inl rfl
    · right
      intro e'
      obtain ⟨_, o, ho, hc⟩ := hr g e'.symm
      rw [hgb] at ho
      cases ho
      cases hc
  refine ⟨h1.kept hg (fun e => ?_), ⟨us, World.ownsRow.kept h2 hg (far _ _ _ _ _ _ h2), h3.map fun v n xs hv => World.ownsRow.kept hv hg (far _ _ _ _ _ _ hv)⟩, h4.grown hg h4.size (fun k e => Nat.le_trans hB (hr k e).1), Nat.le_trans h5 hg.size⟩
  obtain ⟨_, o, ho, hc⟩ := hr Bx e.symm
  rw [show A.heap[Bx]? = _ from h1] at ho
  cases ho
  cases hc
theorem kpB_b {n0 Bs : Nat} {w : World} (hn : n0 ≤ w.heap.size) (hB : Bs < w.heap.size) (W : World) (l : Nat) (o o' : Obj) (hl : w.heap.size ≤ l) (h : W.heap[l]? = some o) (hc : o.isCells = false) (hk : o.isWalk = false) : KpB n0 Bs W (W.putObj l o') :=
  ⟨belowK_b hn W l o o' hl h hc hk, World.putObj_heap_other (by omega)⟩
set_option maxRecDepth 100000 in
set_option maxHeartbeats 2000000 in
theorem falling_in {ll : List (List Int)} {t ub uo db dd uc dc : Nat} (hg : Gr ll) (hl : ll.length ≤ 1000000) (w : World) (h : TreeC w ll ll.length t ub uo db dd uc dc) :
    CallsIn Fence.wide 5 Try.prog 34 #[.pointer (some ⟨t, 0, none⟩)] w fun e w' => ∃ v, e = .returned v ∧ RowsO w.heap.size w' (fallL ll) v ∧ Below w.heap.size w w' := by
  obtain ⟨i0, hi0, hz0, hz1, hz2⟩ := info_parts Try.info22
  obtain ⟨i3, hi3, hz3, hz4, hz5⟩ := info_parts Try.info3
  obtain ⟨tl, ul, _, c1, _, c2, _⟩ := h
  have h1 : 1 ≤ 5 := by omega
  refine callsIn_of_wp_marks Try.func34 rfl trivial ?_ rfl
  simp only [Try.ntmps34, List.size_toArray, List.length_cons, List.length_nil, Nat.reduceAdd, Nat.reduceSub, Array.replicate_succ, Array.replicate_zero, List.push_toArray, List.append_toArray, List.nil_append, List.cons_append]
  refine (wpIn_wide (n := 5)).2 ?_
  go_upto_region 2 with (at_make; refine wpList_make_full _ rfl _ _ 50 rfl w.heap.size 22 i0 _ 1 Try.underlying50 hi0 hz0 hz1 .i64 .i64 ll.length ll.length ll.length rfl rfl rfl rfl (by rw [hz2]; omega) (by unfold maxLen; omega) (Nat.le_refl _) ?_; intro w1 own1 grow1; refine Hid.out ?_)
  rw [made_rows] at own1
  have R1 : Hid (RowAt w1 w.heap.size 22 w.heap.size ll.length (List.replicate ll.length (.slice none 0 0))) := hide own1
  have B1 := hide (grown_b grow1)
  clear own1 grow1
  refine hide ?_
  go_upto_region 2 with fail
  have HBx := Boxed.new w1 50 (.slice (some ⟨w.heap.size, 0, none⟩) ll.length ll.length)
  have b2 := below_box w1 (.cells #[.slice (some ⟨w.heap.size, 0, none⟩) ll.length ll.length] 50)
  have R2 := hide (R1.out.below b2)
  have B2 := hide (below_step B1.out b2)
  have hs1 : w.heap.size < w1.heap.size := R1.out.lt.2
  have hs2 : w1.heap.size < (w1.alloc (.cells #[.slice (some ⟨w.heap.size, 0, none⟩) ll.length ll.length] 50)).heap.size := by simp
  clear b2 R1 B1
  generalize w1.alloc (.cells #[.slice (some ⟨w.heap.size, 0, none⟩) ll.length ll.length] 50) = W2 at *
  have k1 := (B2.out.cell (p := ⟨t, 0, none⟩) tl).trans c1
  have HC := hide (callsIn_wide.1 (back_in Fence.wide 5 trivial rfl (some ⟨ub, uo, none⟩) ll.length uc W2))
  go_wp2_with fail
  refine HC.out.mono ?_; rintro e w3 ⟨rfl, hw3⟩
  have HBs := Boxed.new W2 22 (.slice (some ⟨ub, uo, none⟩) ll.length uc)
  have b3 := below_box W2 (.cells #[.slice (some ⟨ub, uo, none⟩) ll.length uc] 22)
  have R3 := hide (R2.out.below b3)
  have B3 := hide (below_step B2.out b3)
  have HBx3 := HBx.alloc (.cells #[.slice (some ⟨ub, uo, none⟩) ll.length uc] 22)
  have hs3 : W2.heap.size < (W2.alloc (.cells #[.slice (some ⟨ub, uo, none⟩) ll.length uc] 22)).heap.size := by simp
  rw [← hw3] at HBs R3 B3 HBx3 hs3
  clear hw3 b3 R2 B2 HBx HC k1
  have k2 := fun j (hj : j < ll.length) => (B3.out.cell (p := ⟨ub, uo + j, none⟩) ul).trans (c2 j hj)
  go_wp2_with fail
  refine (wpIn_wide (n := 5)).1 ?_
  refine wpIn_rangeFunc_ownG rfl h1 (gf := 54) (lb := #[.pointer (some ⟨W2.heap.size, 0, none⟩)]) rfl trivial (enters_of Try.func54 (by kernel_rfl) rfl)
    (back_stops Fence.wide 4 trivial rfl (by omega) ll hl W2.heap.size w.heap.size ub uo uc ul w3 B3.out.size HBs k2) KpB.trans (kpB_b B3.out.size HBs.lt) (Below.refl _ _) (fun _ => rfl)
    (FalW w ll w.heap.size w1.heap.size w3.heap.size) (fun _ _ _ => False) (FalW.own _ _ _ _ _ _ B3.out.size) (fun _ _ _ _ _ hs _ _ => hs) ?start
    (fun x => { tmps := #[.pointer (some ⟨t, 0, none⟩), undef, .slice none 0 0, .pointer (some ⟨w1.heap.size, 0, none⟩), .int .i64 ((x.1 : Nat) : Int), .int .i64 (upB ll x.1), .pointer (some ⟨t, 0, none⟩), .pointer (some ⟨t, 0, none⟩), .pointer (some ⟨t, 0, none⟩), .slice (some ⟨ub, uo, none⟩) ll.length uc, .int .i64 ll.length, .slice (some ⟨w.heap.size, 0, none⟩) ll.length ll.length, .pointer (some ⟨t, 0, none⟩), .pointer (some ⟨t, 0, none⟩), .pointer (some ⟨t, 0, none⟩), .slice (some ⟨ub, uo, none⟩) ll.length uc, .func (.func 54) #[] #[.pointer (some ⟨W2.heap.size, 0, none⟩)], .int .i64 ((x.1 : Nat) : Int), .int .i64 (upB ll x.1), undef, undef, undef, undef, undef, undef, undef, undef, undef, undef, undef, undef, undef], defers := [] }) ?assign ?body ?done ?stop
  case start =>
    refine ⟨HBx3, ⟨_, R3.out, ?_⟩, B3.out, Nat.le_refl _⟩
    rw [kRows_nil]
    exact RowsS.start _ _ _
  case assign =>
    intro l x W K hK
    have hsem := Oper.semAt_some l
    dsimp only [encB]
    gi_wp2
    exact hK
  case body =>
    rintro l pre x W ⟨hbx, ⟨us, hrow, hrows⟩, hbl, hbs⟩ hlt
    have hsem := Oper.semAt_some l
    by_cases hu : upB ll (x.1 : Int) = -1
    · rw [hu]
      gi_wp2
      exact ⟨KeepsFrom.refl _ _, KpB.refl _ _ _, by unfold FalW; rw [kRows_skip hu]; exact ⟨hbx, ⟨us, hrow, hrows⟩, hbl, hbs⟩⟩
    · obtain ⟨U, hU, hUl⟩ := upB_nat hg hu
      rw [hU]
      have hUI : (U : Int) < ll.length := by omega
      have hne1 : ((U : Int) == -1) = false := beq_eq_false_iff_ne.2 (by omega)
      have hne2 : ((U : Int) != -1) = true := bne_iff_ne.2 (by omega)
      obtain ⟨row, u, y1, y2, y3⟩ := hrows.at (i := U) (by rw [kRows_len]; exact hUl)
      have hrl := kRows_small ll pre y1
      have ydr := own_below (L5.below_drew1 W) _ _ _ _ _ _ y3
      have hWs := hbl.size
      obtain ⟨v2, w2, hr, own2, grow2, _, at2⟩ := run_append_own_at (P := Try.prog) (w := W.drew.alloc (.cells #[.int .i64 ((x.1 : Nat) : Int)] 3)) w3.heap.size 22 22 3 i3 _ 1 8 Try.underlying22 hi3 hz3 hz4 hz5 rfl (by decide) u row.length (ints row) (ydr.alloc _) ⟨W.drew.heap.size, 0, none⟩ 1 1 [.int .i64 ((x.1 : Nat) : Int)] rfl one_cell one_one (by unfold maxLen; omega) (by omega) (by simp; omega)
      have HR := hide hr
      have kx0 : W.drew.cell? ⟨w1.heap.size, 0, none⟩ = some (.slice (some ⟨w.heap.size, 0, none⟩) ll.length ll.length) := hbx.cell
      have bx1 : Boxed (W.drew.alloc (.cells #[.int .i64 ((x.1 : Nat) : Int)] 3)) w1.heap.size 50 (.slice (some ⟨w.heap.size, 0, none⟩) ll.length ll.length) := (show Boxed W.drew _ _ _ from hbx).alloc _
      have kx1 := bx1.cell
      have bx2 : Boxed w2 w1.heap.size 50 (.slice (some ⟨w.heap.size, 0, none⟩) ll.length ll.length) := bx1.kept grow2 (bx1.not_row (by decide) (ydr.alloc _))
      have kx2 := bx2.cell
      have rw0 : RowAt W.drew w.heap.size 22 w.heap.size ll.length us := hrow.below (L5.below_drew1 W)
      have rw1 := rw0.alloc (.cells #[.int .i64 ((x.1 : Nat) : Int)] 3)
      have hfar : some w.heap.size ≠ u.ownBlock := fun e => by have := (y3.lt _ e.symm).1; have := B3.out.size; omega
      have rw2 : RowAt w2 w.heap.size 22 w.heap.size ll.length us := rw1.kept grow2 hfar
      have ku0 := rw0.cell y2
      have ku1 := rw1.cell y2
      have kw2 := rw2.cell y2
      have kx1b : (W.alloc (.cells #[.int .i64 ((x.1 : Nat) : Int)] 3)).cell? ⟨w1.heap.size, 0, none⟩ = some (.slice (some ⟨w.heap.size, 0, none⟩) ll.length ll.length) := kx1
      have ku1b : (W.alloc (.cells #[.int .i64 ((x.1 : Nat) : Int)] 3)).cell? ⟨w.heap.size, U, none⟩ = some u := ku1
      have kz2 := rw2.frozen U
      obtain ⟨vo, vc, rfl⟩ := own_len own2
      obtain ⟨uo2, uc2, rfl⟩ := own_len y3
      have HO2 := hide own2
      have HG2 := hide grow2
      have HA2 := hide at2
      have HY1 := hide y1
      have HY2 := hide y2
      clear own2 grow2 at2 hr y1 y2 hu
      gi_wp2
      refine wpIn_mono (Q := fun e _ w' => e = Exit.normal ∧ w' = w2.setCell ⟨w.heap.size, U, none⟩ (.slice vo (row.length + 1) vc)) ?_ ?_
      · refine wpIn_region_any (by kernel_rfl) ?_
        refine any_round rfl (by kernel_rfl) _ _ _ _ ?_
        change wpAnyIn _ _ _ _ _ _ _ _ _ (World.drew W)
        refine wpAnyIn_take (i := 1) (v := (.int .i64 (U : Int))) rfl rfl (by kernel_rfl) (by kernel_rfl) (by kernel_rfl) (fun _ _ _ h => h) ⟨Or.inl ⟨by rfl, by intro w; simp [go_sem]⟩, fun _ => rfl⟩ ?_
        refine wpAnyIn_take (i := 3) (v := (.int .i64 (U : Int))) rfl rfl (by kernel_rfl) (by kernel_rfl) (by kernel_rfl) (fun _ _ _ h => h) ⟨Or.inl ⟨by rfl, by intro w; simp [go_sem]⟩, fun _ => rfl⟩ ?_
        refine wpAnyIn_take (i := 6) (v := (.int .i64 ((x.1 : Nat) : Int))) rfl rfl (by kernel_rfl) (by kernel_rfl) (by kernel_rfl) (fun _ _ _ h => h) ⟨Or.inl ⟨by rfl, by intro w; simp [go_sem]⟩, fun _ => rfl⟩ ?_
        refine wpAnyIn_ready (rs := [0, 2, 7]) (by kernel_rfl) (by simp) ?_
        refine AllReadyIn.cons rfl (fun K hK => ?_) ?_
        · simp [go_sem, kx0]
          refine hK _ _ ?_
          clear hK K
          refine wpAnyIn_ready (rs := [2, 7]) (by kernel_rfl) (by simp) ?_
          refine AllReadyIn.cons rfl (fun K hK => ?_) ?_
          · simp [go_sem, kx0]
            refine hK _ _ ?_
            clear hK K
            refine wpAnyIn_take (i := 4) (v := (.pointer (some ⟨w.heap.size, U, none⟩))) rfl rfl (by kernel_rfl) (by kernel_rfl) (by kernel_rfl) (fun _ _ _ h => h) ⟨Or.inl ⟨by rfl, by intro w; simp [go_sem, hUI]⟩, fun _ => rfl⟩ ?_
            refine wpAnyIn_ready (rs := [5, 7]) (by kernel_rfl) (by simp) ?_
            refine AllReadyIn.cons rfl (fun K hK => ?_) ?_
            · simp [go_sem, ku0]
              refine hK _ _ ?_
              clear hK K
              refine wpAnyIn_ready (rs := [7]) (by kernel_rfl) (by simp) ?_
              refine AllReadyIn.cons rfl (fun K hK => ?_) ?_
              · simp [go_sem]
                refine hK _ _ ?_
                clear hK K
                refine wpAnyIn_ready (rs := [8]) (by kernel_rfl) (by simp) ?_
                refine AllReadyIn.cons rfl (fun K hK => ?_) ?_
                · refine stepIn_run rfl (.tmp 26) (.tmp 28) 22 rfl _ _ rfl rfl _ w2 HR.out ?_
                  refine hK _ _ ?_
                  clear hK K
                  refine wpAnyIn_take (i := 9) (v := (.pointer (some ⟨w.heap.size, U, none⟩))) rfl rfl (by kernel_rfl) (by kernel_rfl) (by kernel_rfl) (fun _ _ _ h => h) ⟨Or.inl ⟨by rfl, by intro w; simp [go_sem, hUI]⟩, fun _ => rfl⟩ ?_
                  refine wpAnyIn_ready (rs := [10]) (by kernel_rfl) (by simp) ?_
                  refine AllReadyIn.cons rfl (fun K hK => ?_) ?_
                  · simp [go_sem, kw2, kz2]
                    refine hK _ _ ?_
                    clear hK K
                    refine wpAnyIn_done (by kernel_rfl) ?_ _
                    exact ⟨rfl, rfl⟩
                  exact AllReadyIn.nil
                exact AllReadyIn.nil
              exact AllReadyIn.nil
            refine AllReadyIn.cons rfl (fun K hK => ?_) ?_
            · simp [go_sem]
              refine hK _ _ ?_
              clear hK K
              refine wpAnyIn_ready (rs := [5]) (by kernel_rfl) (by simp) ?_
              refine AllReadyIn.cons rfl (fun K hK => ?_) ?_
              · simp [go_sem, ku1b]
                refine hK _ _ ?_
                clear hK K
                refine wpAnyIn_ready (rs := [8]) (by kernel_rfl) (by simp) ?_
                refine AllReadyIn.cons rfl (fun K hK => ?_) ?_
                · refine stepIn_run rfl (.tmp 26) (.tmp 28) 22 rfl _ _ rfl rfl _ w2 HR.out ?_
                  refine hK _ _ ?_
                  clear hK K
                  refine wpAnyIn_take (i := 9) (v := (.pointer (some ⟨w.heap.size, U, none⟩))) rfl rfl (by kernel_rfl) (by kernel_rfl) (by kernel_rfl) (fun _ _ _ h => h) ⟨Or.inl ⟨by rfl, by intro w; simp [go_sem, hUI]⟩, fun _ => rfl⟩ ?_
                  refine wpAnyIn_ready (rs := [10]) (by kernel_rfl) (by simp) ?_
                  refine AllReadyIn.cons rfl (fun K hK => ?_) ?_
                  · simp [go_sem, kw2, kz2]
                    refine hK _ _ ?_
                    clear hK K
                    refine wpAnyIn_done (by kernel_rfl) ?_ _
                    exact ⟨rfl, rfl⟩
                  exact AllReadyIn.nil
                exact AllReadyIn.nil
              exact AllReadyIn.nil
            exact AllReadyIn.nil
          refine AllReadyIn.cons rfl (fun K hK => ?_) ?_
          · simp [go_sem]
            refine hK _ _ ?_
            clear hK K
            refine wpAnyIn_ready (rs := [2]) (by kernel_rfl) (by simp) ?_
            refine AllReadyIn.cons rfl (fun K hK => ?_) ?_
            · simp [go_sem, kx1b]
              refine hK _ _ ?_
              clear hK K
              refine wpAnyIn_take (i := 4) (v := (.pointer (some ⟨w.heap.size, U, none⟩))) rfl rfl (by kernel_rfl) (by kernel_rfl) (by kernel_rfl) (fun _ _ _ h => h) ⟨Or.inl ⟨by rfl, by intro w; simp [go_sem, hUI]⟩, fun _ => rfl⟩ ?_
              refine wpAnyIn_ready (rs := [5]) (by kernel_rfl) (by simp) ?_
              refine AllReadyIn.cons rfl (fun K hK => ?_) ?_
              · simp [go_sem, ku1b]
                refine hK _ _ ?_
                clear hK K
                refine wpAnyIn_ready (rs := [8]) (by kernel_rfl) (by simp) ?_
                refine AllReadyIn.cons rfl (fun K hK => ?_) ?_
                · refine stepIn_run rfl (.tmp 26) (.tmp 28) 22 rfl _ _ rfl rfl _ w2 HR.out ?_
                  refine hK _ _ ?_
                  clear hK K
                  refine wpAnyIn_take (i := 9) (v := (.pointer (some ⟨w.heap.size, U, none⟩))) rfl rfl (by kernel_rfl) (by kernel_rfl) (by kernel_rfl) (fun _ _ _ h => h) ⟨Or.inl ⟨by rfl, by intro w; simp [go_sem, hUI]⟩, fun _ => rfl⟩ ?_
                  refine wpAnyIn_ready (rs := [10]) (by kernel_rfl) (by simp) ?_
                  refine AllReadyIn.cons rfl (fun K hK => ?_) ?_
                  · simp [go_sem, kw2, kz2]
                    refine hK _ _ ?_
                    clear hK K
                    refine wpAnyIn_done (by kernel_rfl) ?_ _
                    exact ⟨rfl, rfl⟩
                  exact AllReadyIn.nil
                exact AllReadyIn.nil
              exact AllReadyIn.nil
            exact AllReadyIn.nil
          exact AllReadyIn.nil
        refine AllReadyIn.cons rfl (fun K hK => ?_) ?_
        · simp [go_sem, kx0]
          refine hK _ _ ?_
          clear hK K
          refine wpAnyIn_take (i := 4) (v := (.pointer (some ⟨w.heap.size, U, none⟩))) rfl rfl (by kernel_rfl) (by kernel_rfl) (by kernel_rfl) (fun _ _ _ h => h) ⟨Or.inl ⟨by rfl, by intro w; simp [go_sem, hUI]⟩, fun _ => rfl⟩ ?_
          refine wpAnyIn_ready (rs := [0, 5, 7]) (by kernel_rfl) (by simp) ?_
          refine AllReadyIn.cons rfl (fun K hK => ?_) ?_
          · simp [go_sem, kx0]
            refine hK _ _ ?_
            clear hK K
            refine wpAnyIn_ready (rs := [5, 7]) (by kernel_rfl) (by simp) ?_
            refine AllReadyIn.cons rfl (fun K hK => ?_) ?_
            · simp [go_sem, ku0]
              refine hK _ _ ?_
              clear hK K
              refine wpAnyIn_ready (rs := [7]) (by kernel_rfl) (by simp) ?_
              refine AllReadyIn.cons rfl (fun K hK => ?_) ?_
              · simp [go_sem]
                refine hK _ _ ?_
                clear hK K
                refine wpAnyIn_ready (rs := [8]) (by kernel_rfl) (by simp) ?_
                refine AllReadyIn.cons rfl (fun K hK => ?_) ?_
                · refine stepIn_run rfl (.tmp 26) (.tmp 28) 22 rfl _ _ rfl rfl _ w2 HR.out ?_
                  refine hK _ _ ?_
                  clear hK K
                  refine wpAnyIn_take (i := 9) (v := (.pointer (some ⟨w.heap.size, U, none⟩))) rfl rfl (by kernel_rfl) (by kernel_rfl) (by kernel_rfl) (fun _ _ _ h => h) ⟨Or.inl ⟨by rfl, by intro w; simp [go_sem, hUI]⟩, fun _ => rfl⟩ ?_
                  refine wpAnyIn_ready (rs := [10]) (by kernel_rfl) (by simp) ?_
                  refine AllReadyIn.cons rfl (fun K hK => ?_) ?_
                  · simp [go_sem, kw2, kz2]
                    refine hK _ _ ?_
                    clear hK K
                    refine wpAnyIn_done (by kernel_rfl) ?_ _
                    exact ⟨rfl, rfl⟩
                  exact AllReadyIn.nil
                exact AllReadyIn.nil
              exact AllReadyIn.nil
            refine AllReadyIn.cons rfl (fun K hK => ?_) ?_
            · simp [go_sem]
              refine hK _ _ ?_
              clear hK K
              refine wpAnyIn_ready (rs := [5]) (by kernel_rfl) (by simp) ?_
              refine AllReadyIn.cons rfl (fun K hK => ?_) ?_
              · simp [go_sem, ku1b]
                refine hK _ _ ?_
                clear hK K
                refine wpAnyIn_ready (rs := [8]) (by kernel_rfl) (by simp) ?_
                refine AllReadyIn.cons rfl (fun K hK => ?_) ?_
                · refine stepIn_run rfl (.tmp 26) (.tmp 28) 22 rfl _ _ rfl rfl _ w2 HR.out ?_
                  refine hK _ _ ?_
                  clear hK K
                  refine wpAnyIn_take (i := 9) (v := (.pointer (some ⟨w.heap.size, U, none⟩))) rfl rfl (by kernel_rfl) (by kernel_rfl) (by kernel_rfl) (fun _ _ _ h => h) ⟨Or.inl ⟨by rfl, by intro w; simp [go_sem, hUI]⟩, fun _ => rfl⟩ ?_
                  refine wpAnyIn_ready (rs := [10]) (by kernel_rfl) (by simp) ?_
                  refine AllReadyIn.cons rfl (fun K hK => ?_) ?_
                  · simp [go_sem, kw2, kz2]
                    refine hK _ _ ?_
                    clear hK K
                    refine wpAnyIn_done (by kernel_rfl) ?_ _
                    exact ⟨rfl, rfl⟩
                  exact AllReadyIn.nil
                exact AllReadyIn.nil
              exact AllReadyIn.nil
            exact AllReadyIn.nil
          refine AllReadyIn.cons rfl (fun K hK => ?_) ?_
          · simp [go_sem, ku0]
            refine hK _ _ ?_
            clear hK K
            refine wpAnyIn_ready (rs := [0, 7]) (by kernel_rfl) (by simp) ?_
            refine AllReadyIn.cons rfl (fun K hK => ?_) ?_
            · simp [go_sem, kx0]
              refine hK _ _ ?_
              clear hK K
              refine wpAnyIn_ready (rs := [7]) (by kernel_rfl) (by simp) ?_
              refine AllReadyIn.cons rfl (fun K hK => ?_) ?_
              · simp [go_sem]
                refine hK _ _ ?_
                clear hK K
                refine wpAnyIn_ready (rs := [8]) (by kernel_rfl) (by simp) ?_
                refine AllReadyIn.cons rfl (fun K hK => ?_) ?_
                · refine stepIn_run rfl (.tmp 26) (.tmp 28) 22 rfl _ _ rfl rfl _ w2 HR.out ?_
                  refine hK _ _ ?_
                  clear hK K
                  refine wpAnyIn_take (i := 9) (v := (.pointer (some ⟨w.heap.size, U, none⟩))) rfl rfl (by kernel_rfl) (by kernel_rfl) (by kernel_rfl) (fun _ _ _ h => h) ⟨Or.inl ⟨by rfl, by intro w; simp [go_sem, hUI]⟩, fun _ => rfl⟩ ?_
                  refine wpAnyIn_ready (rs := [10]) (by kernel_rfl) (by simp) ?_
                  refine AllReadyIn.cons rfl (fun K hK => ?_) ?_
                  · simp [go_sem, kw2, kz2]
                    refine hK _ _ ?_
                    clear hK K
                    refine wpAnyIn_done (by kernel_rfl) ?_ _
                    exact ⟨rfl, rfl⟩
                  exact AllReadyIn.nil
                exact AllReadyIn.nil
              exact AllReadyIn.nil
            refine AllReadyIn.cons rfl (fun K hK => ?_) ?_
            · simp [go_sem]
              refine hK _ _ ?_
              clear hK K
              refine wpAnyIn_ready (rs := [0, 8]) (by kernel_rfl) (by simp) ?_
              refine AllReadyIn.cons rfl (fun K hK => ?_) ?_
              · simp [go_sem, kx1b]
                refine hK _ _ ?_
                clear hK K
                refine wpAnyIn_ready (rs := [8]) (by kernel_rfl) (by simp) ?_
                refine AllReadyIn.cons rfl (fun K hK => ?_) ?_
                · refine stepIn_run rfl (.tmp 26) (.tmp 28) 22 rfl _ _ rfl rfl _ w2 HR.out ?_
                  refine hK _ _ ?_
                  clear hK K
                  refine wpAnyIn_take (i := 9) (v := (.pointer (some ⟨w.heap.size, U, none⟩))) rfl rfl (by kernel_rfl) (by kernel_rfl) (by kernel_rfl) (fun _ _ _ h => h) ⟨Or.inl ⟨by rfl, by intro w; simp [go_sem, hUI]⟩, fun _ => rfl⟩ ?_
                  refine wpAnyIn_ready (rs := [10]) (by kernel_rfl) (by simp) ?_
                  refine AllReadyIn.cons rfl (fun K hK => ?_) ?_
                  · simp [go_sem, kw2, kz2]
                    refine hK _ _ ?_
                    clear hK K
                    refine wpAnyIn_done (by kernel_rfl) ?_ _
                    exact ⟨rfl, rfl⟩
                  exact AllReadyIn.nil
                exact AllReadyIn.nil
              refine AllReadyIn.cons rfl (fun K hK => ?_) ?_
              · refine stepIn_run rfl (.tmp 26) (.tmp 28) 22 rfl _ _ rfl rfl _ w2 HR.out ?_
                refine hK _ _ ?_
                clear hK K
                refine wpAnyIn_ready (rs := [0]) (by kernel_rfl) (by simp) ?_
                refine AllReadyIn.cons rfl (fun K hK => ?_) ?_
                · simp [go_sem, kx2]
                  refine hK _ _ ?_
                  clear hK K
                  refine wpAnyIn_take (i := 9) (v := (.pointer (some ⟨w.heap.size, U, none⟩))) rfl rfl (by kernel_rfl) (by kernel_rfl) (by kernel_rfl) (fun _ _ _ h => h) ⟨Or.inl ⟨by rfl, by intro w; simp [go_sem, hUI]⟩, fun _ => rfl⟩ ?_
                  refine wpAnyIn_ready (rs := [10]) (by kernel_rfl) (by simp) ?_
                  refine AllReadyIn.cons rfl (fun K hK => ?_) ?_
                  · simp [go_sem, kw2, kz2]
                    refine hK _ _ ?_
                    clear hK K
                    refine wpAnyIn_done (by kernel_rfl) ?_ _
                    exact ⟨rfl, rfl⟩
                  exact AllReadyIn.nil
                exact AllReadyIn.nil
              exact AllReadyIn.nil
            exact AllReadyIn.nil
          refine AllReadyIn.cons rfl (fun K hK => ?_) ?_
          · simp [go_sem]
            refine hK _ _ ?_
            clear hK K
            refine wpAnyIn_ready (rs := [0, 5]) (by kernel_rfl) (by simp) ?_
            refine AllReadyIn.cons rfl (fun K hK => ?_) ?_
            · simp [go_sem, kx1b]
              refine hK _ _ ?_
              clear hK K
              refine wpAnyIn_ready (rs := [5]) (by kernel_rfl) (by simp) ?_
              refine AllReadyIn.cons rfl (fun K hK => ?_) ?_
              · simp [go_sem, ku1b]
                refine hK _ _ ?_
                clear hK K
                refine wpAnyIn_ready (rs := [8]) (by kernel_rfl) (by simp) ?_
                refine AllReadyIn.cons rfl (fun K hK => ?_) ?_
                · refine stepIn_run rfl (.tmp 26) (.tmp 28) 22 rfl _ _ rfl rfl _ w2 HR.out ?_
                  refine hK _ _ ?_
                  clear hK K
                  refine wpAnyIn_take (i := 9) (v := (.pointer (some ⟨w.heap.size, U, none⟩))) rfl rfl (by kernel_rfl) (by kernel_rfl) (by kernel_rfl) (fun _ _ _ h => h) ⟨Or.inl ⟨by rfl, by intro w; simp [go_sem, hUI]⟩, fun _ => rfl⟩ ?_
                  refine wpAnyIn_ready (rs := [10]) (by kernel_rfl) (by simp) ?_
                  refine AllReadyIn.cons rfl (fun K hK => ?_) ?_
                  · simp [go_sem, kw2, kz2]
                    refine hK _ _ ?_
                    clear hK K
                    refine wpAnyIn_done (by kernel_rfl) ?_ _
                    exact ⟨rfl, rfl⟩
                  exact AllReadyIn.nil
                exact AllReadyIn.nil
              exact AllReadyIn.nil
            refine AllReadyIn.cons rfl (fun K hK => ?_) ?_
            · simp [go_sem, ku1b]
              refine hK _ _ ?_
              clear hK K
              refine wpAnyIn_ready (rs := [0, 8]) (by kernel_rfl) (by simp) ?_
              refine AllReadyIn.cons rfl (fun K hK => ?_) ?_
              · simp [go_sem, kx1b]
                refine hK _ _ ?_
                clear hK K
                refine wpAnyIn_ready (rs := [8]) (by kernel_rfl) (by simp) ?_
                refine AllReadyIn.cons rfl (fun K hK => ?_) ?_
                · refine stepIn_run rfl (.tmp 26) (.tmp 28) 22 rfl _ _ rfl rfl _ w2 HR.out ?_
                  refine hK _ _ ?_
                  clear hK K
                  refine wpAnyIn_take (i := 9) (v := (.pointer (some ⟨w.heap.size, U, none⟩))) rfl rfl (by kernel_rfl) (by kernel_rfl) (by kernel_rfl) (fun _ _ _ h => h) ⟨Or.inl ⟨by rfl, by intro w; simp [go_sem, hUI]⟩, fun _ => rfl⟩ ?_
                  refine wpAnyIn_ready (rs := [10]) (by kernel_rfl) (by simp) ?_
                  refine AllReadyIn.cons rfl (fun K hK => ?_) ?_
                  · simp [go_sem, kw2, kz2]
                    refine hK _ _ ?_
                    clear hK K
                    refine wpAnyIn_done (by kernel_rfl) ?_ _
                    exact ⟨rfl, rfl⟩
                  exact AllReadyIn.nil
                exact AllReadyIn.nil
              refine AllReadyIn.cons rfl (fun K hK => ?_) ?_
              · refine stepIn_run rfl (.tmp 26) (.tmp 28) 22 rfl _ _ rfl rfl _ w2 HR.out ?_
                refine hK _ _ ?_
                clear hK K
                refine wpAnyIn_ready (rs := [0]) (by kernel_rfl) (by simp) ?_
                refine AllReadyIn.cons rfl (fun K hK => ?_) ?_
                · simp [go_sem, kx2]
                  refine hK _ _ ?_
                  clear hK K
                  refine wpAnyIn_take (i := 9) (v := (.pointer (some ⟨w.heap.size, U, none⟩))) rfl rfl (by kernel_rfl) (by kernel_rfl) (by kernel_rfl) (fun _ _ _ h => h) ⟨Or.inl ⟨by rfl, by intro w; simp [go_sem, hUI]⟩, fun _ => rfl⟩ ?_
                  refine wpAnyIn_ready (rs := [10]) (by kernel_rfl) (by simp) ?_
                  refine AllReadyIn.cons rfl (fun K hK => ?_) ?_
                  · simp [go_sem, kw2, kz2]
                    refine hK _ _ ?_
                    clear hK K
                    refine wpAnyIn_done (by kernel_rfl) ?_ _
                    exact ⟨rfl, rfl⟩
                  exact AllReadyIn.nil
                exact AllReadyIn.nil
              exact AllReadyIn.nil
            exact AllReadyIn.nil
          exact AllReadyIn.nil
        refine AllReadyIn.cons rfl (fun K hK => ?_) ?_
        · simp [go_sem]
          refine hK _ _ ?_
          clear hK K
          refine wpAnyIn_ready (rs := [0, 2]) (by kernel_rfl) (by simp) ?_
          refine AllReadyIn.cons rfl (fun K hK => ?_) ?_
          · simp [go_sem, kx1b]
            refine hK _ _ ?_
            clear hK K
            refine wpAnyIn_ready (rs := [2]) (by kernel_rfl) (by simp) ?_
            refine AllReadyIn.cons rfl (fun K hK => ?_) ?_
            · simp [go_sem, kx1b]
              refine hK _ _ ?_
              clear hK K
              refine wpAnyIn_take (i := 4) (v := (.pointer (some ⟨w.heap.size, U, none⟩))) rfl rfl (by kernel_rfl) (by kernel_rfl) (by kernel_rfl) (fun _ _ _ h => h) ⟨Or.inl ⟨by rfl, by intro w; simp [go_sem, hUI]⟩, fun _ => rfl⟩ ?_
              refine wpAnyIn_ready (rs := [5]) (by kernel_rfl) (by simp) ?_
              refine AllReadyIn.cons rfl (fun K hK => ?_) ?_
              · simp [go_sem, ku1b]
                refine hK _ _ ?_
                clear hK K
                refine wpAnyIn_ready (rs := [8]) (by kernel_rfl) (by simp) ?_
                refine AllReadyIn.cons rfl (fun K hK => ?_) ?_
                · refine stepIn_run rfl (.tmp 26) (.tmp 28) 22 rfl _ _ rfl rfl _ w2 HR.out ?_
                  refine hK _ _ ?_
                  clear hK K
                  refine wpAnyIn_take (i := 9) (v := (.pointer (some ⟨w.heap.size, U, none⟩))) rfl rfl (by kernel_rfl) (by kernel_rfl) (by kernel_rfl) (fun _ _ _ h => h) ⟨Or.inl ⟨by rfl, by intro w; simp [go_sem, hUI]⟩, fun _ => rfl⟩ ?_
                  refine wpAnyIn_ready (rs := [10]) (by kernel_rfl) (by simp) ?_
                  refine AllReadyIn.cons rfl (fun K hK => ?_) ?_
                  · simp [go_sem, kw2, kz2]
                    refine hK _ _ ?_
                    clear hK K
                    refine wpAnyIn_done (by kernel_rfl) ?_ _
                    exact ⟨rfl, rfl⟩
                  exact AllReadyIn.nil
                exact AllReadyIn.nil
              exact AllReadyIn.nil
            exact AllReadyIn.nil
          refine AllReadyIn.cons rfl (fun K hK => ?_) ?_
          · simp [go_sem, kx1b]
            refine hK _ _ ?_
            clear hK K
            refine wpAnyIn_take (i := 4) (v := (.pointer (some ⟨w.heap.size, U, none⟩))) rfl rfl (by kernel_rfl) (by kernel_rfl) (by kernel_rfl) (fun _ _ _ h => h) ⟨Or.inl ⟨by rfl, by intro w; simp [go_sem, hUI]⟩, fun _ => rfl⟩ ?_
            refine wpAnyIn_ready (rs := [0, 5]) (by kernel_rfl) (by simp) ?_
            refine AllReadyIn.cons rfl (fun K hK => ?_) ?_
            · simp [go_sem, kx1b]
              refine hK _ _ ?_
              clear hK K
              refine wpAnyIn_ready (rs := [5]) (by kernel_rfl) (by simp) ?_
              refine AllReadyIn.cons rfl (fun K hK => ?_) ?_
              · simp [go_sem, ku1b]
                refine hK _ _ ?_
                clear hK K
                refine wpAnyIn_ready (rs := [8]) (by kernel_rfl) (by simp) ?_
                refine AllReadyIn.cons rfl (fun K hK => ?_) ?_
                · refine stepIn_run rfl (.tmp 26) (.tmp 28) 22 rfl _ _ rfl rfl _ w2 HR.out ?_
                  refine hK _ _ ?_
                  clear hK K
                  refine wpAnyIn_take (i := 9) (v := (.pointer (some ⟨w.heap.size, U, none⟩))) rfl rfl (by kernel_rfl) (by kernel_rfl) (by kernel_rfl) (fun _ _ _ h => h) ⟨Or.inl ⟨by rfl, by intro w; simp [go_sem, hUI]⟩, fun _ => rfl⟩ ?_
                  refine wpAnyIn_ready (rs := [10]) (by kernel_rfl) (by simp) ?_
                  refine AllReadyIn.cons rfl (fun K hK => ?_) ?_
                  · simp [go_sem, kw2, kz2]
                    refine hK _ _ ?_
                    clear hK K
                    refine wpAnyIn_done (by kernel_rfl) ?_ _
                    exact ⟨rfl, rfl⟩
                  exact AllReadyIn.nil
                exact AllReadyIn.nil
              exact AllReadyIn.nil
            refine AllReadyIn.cons rfl (fun K hK => ?_) ?_
            · simp [go_sem, ku1b]
              refine hK _ _ ?_
              clear hK K
              refine wpAnyIn_ready (rs := [0, 8]) (by kernel_rfl) (by simp) ?_
              refine AllReadyIn.cons rfl (fun K hK => ?_) ?_
              · simp [go_sem, kx1b]
                refine hK _ _ ?_
                clear hK K
                refine wpAnyIn_ready (rs := [8]) (by kernel_rfl) (by simp) ?_
                refine AllReadyIn.cons rfl (fun K hK => ?_) ?_
                · refine stepIn_run rfl (.tmp 26) (.tmp 28) 22 rfl _ _ rfl rfl _ w2 HR.out ?_
                  refine hK _ _ ?_
                  clear hK K
                  refine wpAnyIn_take (i := 9) (v := (.pointer (some ⟨w.heap.size, U, none⟩))) rfl rfl (by kernel_rfl) (by kernel_rfl) (by kernel_rfl) (fun _ _ _ h => h) ⟨Or.inl ⟨by rfl, by intro w; simp [go_sem, hUI]⟩, fun _ => rfl⟩ ?_
                  refine wpAnyIn_ready (rs := [10]) (by kernel_rfl) (by simp) ?_
                  refine AllReadyIn.cons rfl (fun K hK => ?_) ?_
                  · simp [go_sem, kw2, kz2]
                    refine hK _ _ ?_
                    clear hK K
                    refine wpAnyIn_done (by kernel_rfl) ?_ _
                    exact ⟨rfl, rfl⟩
                  exact AllReadyIn.nil
                exact AllReadyIn.nil
              refine AllReadyIn.cons rfl (fun K hK => ?_) ?_
              · refine stepIn_run rfl (.tmp 26) (.tmp 28) 22 rfl _ _ rfl rfl _ w2 HR.out ?_
                refine hK _ _ ?_
                clear hK K
                refine wpAnyIn_ready (rs := [0]) (by kernel_rfl) (by simp) ?_
                refine AllReadyIn.cons rfl (fun K hK => ?_) ?_
                · simp [go_sem, kx2]
                  refine hK _ _ ?_
                  clear hK K
                  refine wpAnyIn_take (i := 9) (v := (.pointer (some ⟨w.heap.size, U, none⟩))) rfl rfl (by kernel_rfl) (by kernel_rfl) (by kernel_rfl) (fun _ _ _ h => h) ⟨Or.inl ⟨by rfl, by intro w; simp [go_sem, hUI]⟩, fun _ => rfl⟩ ?_
                  refine wpAnyIn_ready (rs := [10]) (by kernel_rfl) (by simp) ?_
                  refine AllReadyIn.cons rfl (fun K hK => ?_) ?_
                  · simp [go_sem, kw2, kz2]
                    refine hK _ _ ?_
                    clear hK K
                    refine wpAnyIn_done (by kernel_rfl) ?_ _
                    exact ⟨rfl, rfl⟩
                  exact AllReadyIn.nil
                exact AllReadyIn.nil
              exact AllReadyIn.nil
            exact AllReadyIn.nil
          exact AllReadyIn.nil
        exact AllReadyIn.nil
      · rintro e a' w' ⟨rfl, rfl⟩
        have hg1s : w.heap.size < w3.heap.size := Nat.lt_trans hs1 (Nat.lt_trans hs2 hs3)
        have hWd : W.drew.heap.size = W.heap.size := rfl
        have kO : KeepsOthers W (w2.setCell ⟨w.heap.size, U, none⟩ (.slice vo (row.length + 1) vc)) := by
          have k0 : KeepsOthers W W.drew := ⟨Nat.le_refl _, fun _ _ h _ => h⟩
          refine ((k0.trans (KeepsOthers.alloc _ _)).trans (KeepsOthers.of_grownBy HG2.out fun j o ej hj => ?_)).trans (KeepsOthers.setCell _ _ _)
          rcases (ydr.alloc (.cells #[.int .i64 ((x.1 : Nat) : Int)] 3)).2 with ⟨e0, _⟩ | ⟨g, cap, cur, e0, _, hgb, _⟩
          · rw [e0] at ej; simp [Value.ownBlock] at ej
          · rw [e0] at ej
            obtain rfl : g = j := by simpa [Value.ownBlock] using ej
            rw [hgb] at hj; cases hj; rfl
        have hbW : Below w.heap.size W (w2.setCell ⟨w.heap.size, U, none⟩ (.slice vo (row.length + 1) vc)) := by
          refine ((((Below.refl w.heap.size W).drew).alloc (by omega) _).grown HG2.out (by simp; omega) fun j ej => ?_).setCell (p := ⟨w.heap.size, U, none⟩) (Nat.le_refl _) _
          have := (y3.lt j ej).1
          omega
        have hbk : ∀ k, k < w3.heap.size → k ≠ w.heap.size → (w2.setCell ⟨w.heap.size, U, none⟩ (.slice vo (row.length + 1) vc)).heap[k]? = W.heap[k]? := by
          intro k hk hne
          rw [Below.heap_setCell w2 ⟨w.heap.size, U, none⟩ _ k hne, HG2.out.block k (by simp; omega) (fun e => by have := (y3.lt k e.symm).1; omega)]
          exact Below.heap_alloc W.drew _ k (by rw [hWd]; omega)
        refine ⟨kO.from _, ⟨hbW, hbk _ hs3 (by omega)⟩, (hbk _ (by omega) (by omega)).trans hbx, ⟨us.set U (.slice vo (row.length + 1) vc), rw2.set U _, ?_⟩, hbl.trans hbW, Nat.le_trans hbs kO.size⟩
        have st := (hrows.below (L5.below_drew1 W)).step HY1.out HY2.out HO2.out HG2.out HA2.out
        rw [kRows_put hU hUl HY1.out] at st
        exact st.put (p := ⟨w.heap.size, U, none⟩) hg1s _
  case done =>
    rintro D ys W hD hS hF hK
    have hF2 := (FalW.own w ll w.heap.size w1.heap.size w3.heap.size w3.heap.size B3.out.size).putObj (.deferred none) hF hD hK rfl
    have kx := hF.1.cell
    go_wp2_with fail
    refine ⟨by simp, .inl ⟨_, _, rfl, run_takeDeferred hK, ?_⟩⟩
    obtain ⟨_, ⟨us, r1, r2⟩, r3, _⟩ := hF2
    rw [kRows_all hS] at r2
    exact ⟨_, results_tmp rfl _ _ _, .slice (some ⟨w.heap.size, 0, none⟩) ll.length ll.length, rfl, r2.rows r1 (by have := B3.out.size; omega), r3⟩
  case stop =>
    rintro D c pre W _ _ h _
    exact h.elim
end Go.Proofs.Ytnlcpfijfjbgjaa
