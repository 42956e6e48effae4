/- Layer 9, the program: down the tree, by a list of what is still to be told. Layer 9: the program's functions answer what is asked of them. -/
import Derived.Test.YtnlcpfijfjbgjaaWaBA
import Derived.Deep.LoopGhost
namespace Go.Proofs.Ytnlcpfijfjbgjaa
open Go Go.RowKit
open G (Tok Er Ins Fun)
theorem downN_same {ll : List (List Int)} (hg : Gr ll) : ∀ (N M : Nat) (b : Int), ll.length + 1 ≤ depthB ll b + N → ll.length + 1 ≤ depthB ll b + M → downN ll N b = downN ll M b := by
  intro N
  induction N with
  | zero => intro M b h; have := depth_max ll b; omega
  | succ N ih =>
    intro M b h1 h2
    cases M with
    | zero => have := depth_max ll b; omega
    | succ M =>
      rw [downN, downN]
      congr 1
      have e : ∀ l : List Int, (∀ m ∈ l, m ∈ kidsB ll b) → l.flatMap (downN ll N) = l.flatMap (downN ll M) := by
        intro l
        induction l with
        | nil => intro _; rfl
        | cons m l ih2 =>
          intro h
          have hk := kid_deep hg (h m (by simp))
          rw [List.flatMap_cons, List.flatMap_cons, ih M m (by omega) (by omega), ih2 (fun x hx => h x (by simp [hx]))]
      exact e _ (fun m hm => hm)
theorem downB_step {ll : List (List Int)} (hg : Gr ll) (b : Int) : downB ll b = b :: (kidsB ll b).flatMap (downB ll) := by
  show downN ll (ll.length + 1) b = _
  rw [downN]
  congr 1
  have e : ∀ l : List Int, (∀ m ∈ l, m ∈ kidsB ll b) → l.flatMap (downN ll ll.length) = l.flatMap (downB ll) := by
    intro l
    induction l with
    | nil => intro _; rfl
    | cons m l ih2 =>
      intro h
      have hk := kid_deep hg (h m (by simp))
      rw [List.flatMap_cons, List.flatMap_cons, ih2 (fun x hx => h x (by simp [hx]))]
      congr 1
      exact downN_same hg _ _ m (by omega) (by omega)
  exact e _ (fun m hm => hm)
/-- What is told, and what is still to be told, make the whole. -/
def Told (ll : List (List Int)) (done todo : List Int) : Prop := done ++ todo.reverse.flatMap (downB ll) = downB ll 0 ∧ Num ll.length todo
theorem Told.start (ll : List (List Int)) (hg : Gr ll) : Told ll [] [0] := ⟨by simp, fun m hm => by simp at hm; subst hm; have := hg.2; omega⟩
theorem Told.step {ll : List (List Int)} (hg : Gr ll) {done todo : List Int} {k : Int} (h : Told ll done (todo ++ [k])) : Told ll (done ++ [k]) (todo ++ (kidsB ll k).reverse) := by
  refine ⟨?_, fun m hm => ?_⟩
  · rw [← h.1]
    simp only [List.reverse_append, List.reverse_reverse, List.reverse_cons, List.reverse_nil, List.nil_append, List.flatMap_append, List.append_assoc, List.cons_append, List.flatMap_cons]
    rw [downB_step hg k]
    simp
  · rcases List.mem_append.1 hm with hm | hm
    · exact h.2 m (by simp [hm])
    · obtain ⟨_, h1, h2, _⟩ := mem_kids (List.mem_reverse.1 hm)
      exact ⟨h1, h2⟩
theorem downB_pos {ll : List (List Int)} (hg : Gr ll) (b : Int) : 1 ≤ (downB ll b).length := by rw [downB_step hg]; simp
theorem flat_ge {ll : List (List Int)} (hg : Gr ll) : ∀ l : List Int, l.length ≤ (l.flatMap (downB ll)).length := by
  intro l
  induction l with
  | nil => simp
  | cons m l ih =>
    rw [List.flatMap_cons, List.length_append, List.length_cons]
    have := downB_pos hg m
    omega
theorem Told.small {ll : List (List Int)} (hg : Gr ll) (hl : ll.length ≤ 10) {done todo : List Int} (h : Told ll done todo) : done.length + todo.length ≤ 300000000000 := by
  have h1 := congrArg List.length h.1
  rw [List.length_append] at h1
  have h2 := flat_ge hg todo.reverse
  rw [List.length_reverse] at h2
  have h3 : (downB ll 0).length ≤ 11 ^ (ll.length + 1) := downN_max hl _ _
  have h4 : 11 ^ (ll.length + 1) ≤ 11 ^ 11 := Nat.pow_le_pow_right (by omega) (by omega)
  have h5 : (11 : Nat) ^ 11 = 285311670611 := by decide
  omega
theorem fallL_at {ll : List (List Int)} {b : Nat} (h : b < ll.length) : (fallL ll)[b]? = some (kidsB ll b).reverse := by
  unfold fallL; rw [List.getElem?_map, List.getElem?_range h]; rfl
theorem fallL_len (ll : List (List Int)) : (fallL ll).length = ll.length := by simp [fallL]
/-- A list behind a list of one's own, whether it is nil or not. -/
theorem run_join {w : World} {base B : Nat} {v vx : Value} {n : Nat} {xs : List Value} {l : List Int} (ty : TypeId) (hown : w.ownsRow base 3 1 v n xs) (hl : w.ownsRow B 3 1 vx l.length (ints l)) (h63 : n + l.length ≤ 600000000000) (hbase : base ≤ w.heap.size) :
    ∃ v' w', (Builtin.append_ #[22, 22] ty #[v, vx]).run Try.prog w = .ok v' w' ∧ w'.ownsRow base 3 1 v' (n + l.length) (xs ++ ints l) ∧ w.grownBy w' v.ownBlock ∧ (v'.ownBlock = v.ownBlock ∨ v'.ownBlock = some w.heap.size) := by
  obtain ⟨i0, hi0, hz0, hz1, hz2⟩ := info_parts Try.info3
  rcases own_view hl with ⟨rfl, hn⟩ | ⟨g, cap, rfl, h1, h2, h3, h4, h5, h6⟩
  · have e : l = [] := List.length_eq_zero_iff.1 hn
    subst e
    refine ⟨v, w, run_append_owned_none w base 22 ty 3 i0 1 Try.underlying22 hi0 v n xs hown, by simpa [ints] using hown, World.grownBy.refl _ _, .inl rfl⟩
  · obtain ⟨v', w', k1, k2, k3, _, k5⟩ := run_append_own_at (P := Try.prog) (w := w) base 22 ty 3 i0 _ 1 8 Try.underlying22 hi0 hz0 hz1 hz2 rfl (by decide) v n xs hown ⟨g, 0, none⟩ l.length cap (ints l) (by simp [ints]) (fun j u hj => by rw [Addr.add_lit, Nat.zero_add]; exact h5 j u hj) (oneCell_ints l) (by unfold maxLen; omega) (by omega) hbase
    exact ⟨v', w', k1, k2, k3, k5⟩
theorem stepP_run {P : Program} {ops : Array Oper} {o : Oper} {a : Act} {w : World} {K : Act → World → Prop} {Q : Exit → Act → World → Prop} {E : Prop} (hgd : o.guard = none) (s x : Operand) (t : TypeId)
    (ho : o.op = .call { callee := .builtin .append, args := #[s, x], argTypes := #[t, t] }) (v vx : Value) (hs : a.eval s = v) (hx : a.eval x = vx) (v2 : Value) (w2 : World) (hr : (Builtin.append_ #[t, t] o.type #[v, vx]).run P w = .ok v2 w2)
    (h : K (a.put o.dst v2) w2) : if Region.wanted o (yielded ops a.tmps) = true then Oper.wp P o a w K Q else E := by
  have hw : Region.wanted o (yielded ops a.tmps) = true := by simp [Region.wanted, hgd]
  rw [if_pos hw]
  unfold Oper.wp
  simp [execOp, ho, resolve, invoke, builtin, hs, hx, hr, Result.andThen]
  exact h
/-- The walk down under way. -/
def DwnW (ll : List (List Int)) (w2 : World) (done todo : List Int) (dv tv : Value) (wr : World) : Prop := Told ll done todo ∧ wr.ownsRow w2.heap.size 3 1 tv todo.length (ints todo) ∧ wr.ownsRow w2.heap.size 3 1 dv done.length (ints done) ∧ Apart tv dv ∧ Below w2.heap.size w2 wr
set_option maxHeartbeats 4000000 in
set_option maxRecDepth 20000 in
theorem downT_any {ll : List (List Int)} {t ub uo db dd uc dc : Nat} (hg : Gr ll) (hl : ll.length ≤ 10) (w : World) (h : TreeC w ll ll.length t ub uo db dd uc dc) :
    Calls Try.prog 19 #[.pointer (some ⟨t, 0, none⟩)] w fun e w' => ∃ u, e = .returned u ∧ IntsV w' (downB ll 0) u ∧ Below w.heap.size w w' := by
  obtain ⟨i0, hi0, hz0, hz1, hz2⟩ := info_parts Try.info3
  have HC := hide (there_tree 0 w h)
  have h0 : 0 ≤ (0 : Int) ∧ (0 : Int) < ll.length := ⟨by omega, by have := hg.2; omega⟩
  rw [decide_eq_true h0] at HC
  have HF := hide (callsIn_wide.1 (falling_in hg (by omega) w h))
  have HSt := hide (Told.start ll hg)
  have HStep := hide (fun (done todo : List Int) (k : Int) (h : Told ll done (todo ++ [k])) => h.step hg)
  have HSm := hide (fun (done todo : List Int) (h : Told ll done todo) => h.small hg hl)
  clear hg h h0
  go_enter Try.func19, Try.ntmps19
  go_wp2_with fail
  refine HC.out.mono ?_; rintro e w1 ⟨rfl, rfl⟩
  clear HC
  go_wp2_with fail
  refine HF.out.mono ?_; rintro e w2 ⟨kv, rfl, hk, b2⟩
  obtain ⟨ko, kc, rfl⟩ := own_len hk.choose_spec.1
  have HK := hide hk
  have B2 := hide b2
  clear HF hk b2
  have hfl : (fallL ll).length = ll.length := fallL_len ll
  rw [hfl]
  rw [hfl] at HK
  have HS0 : Hid (DwnW ll w2 [] [0] (.slice none 0 0) (.slice (some ⟨w2.heap.size, 0, none⟩) 1 1) (w2.alloc (.cells #[.int .i64 0] 3))) := hide ⟨HSt.out, World.ownsRow_lit (size := 1) w2 #[.int .i64 0] 1 (Nat.le_refl _) (by unfold maxLen; omega) rfl, World.ownsRow_nil _ _ _ _, .inr (by simp [Value.ownBlock]), below_box _ _⟩
  clear hfl HSt
  go_wp2_with fail
  generalize w2.alloc (.cells #[.int .i64 0] 3) = w3 at *
  obtain ⟨g0, hg0⟩ : ∃ g0, w2.heap.size = g0 := ⟨_, rfl⟩
  rw [hg0]
  rw [hg0] at HS0
  replace hg0 := hide hg0
  go_loopg [4, 5] ((downB ll 0).length + 1) (fun k dv tv wr => ∃ done todo, Hid (k + done.length = (downB ll 0).length + 1) ∧ Hid (DwnW ll w2 done todo dv tv wr))
  case atStart => exact ⟨[], [0], hide (by simp), HS0⟩
  case round =>
    clear HS0
    obtain ⟨done, todo, HKl, HS⟩ := hrel
    obtain ⟨ht, ho1, ho2, hap, hbl⟩ := HS.out
    have hsm := HSm.out _ _ ht
    by_cases hw0 : todo = []
    · subst hw0
      obtain ⟨dvo, dvc, rfl⟩ := own_len ho2
      have HE : Hid (IntsV wr (downB ll 0) (.slice dvo done.length dvc) ∧ Below w1.heap.size w1 wr) := hide (by
        have e : done = downB ll 0 := by simpa using ht.1
        rw [← e]
        exact ⟨ints_of ho2, below_step B2.out hbl⟩)
      obtain ⟨to, tc, rfl⟩ := own_len ho1
      clear ht ho1 ho2 hap hbl HS
      go_wp2_with fail
      go_ret
      exact ⟨_, rfl, HE.out.1, HE.out.2⟩
    · obtain ⟨up, kI, rfl⟩ := last_way hw0
      have hkn := ht.2 kI (by simp)
      obtain ⟨k, rfl⟩ : ∃ k : Nat, kI = (k : Int) := ⟨kI.toNat, by omega⟩
      have hkN : (k : Int) < ll.length := hkn.2
      have hkl : k < ll.length := by omega
      have hlu : (up ++ [(k : Int)]).length = up.length + 1 := by simp
      rw [hlu] at ho1 hsm
      rcases own_view ho1 with ⟨_, hn⟩ | ⟨gw, wc, rfl, d1, d2, d3, d4, d5, d6⟩
      · omega
      obtain ⟨P, hP⟩ : ∃ P, P = up.length + 1 := ⟨_, rfl⟩
      obtain ⟨L, hL⟩ : ∃ L, L = up.length := ⟨_, rfl⟩
      have hPL : (P : Int) - 1 = (L : Int) := by omega
      have hLP : (L : Int) < P := by omega
      have hP0 : (0 : Int) < P := by omega
      have cw : wr.cell? ⟨gw, L, none⟩ = some (.int .i64 k) := d5 L _ (ints_at (by rw [hL]; simp))
      have hLc : (L : Int) ≤ wc := by omega
      unfold maxLen at d2
      have hpop : wr.ownsRow w2.heap.size 3 1 (.slice (some ⟨gw, 0, none⟩) L wc) L (ints up) := own_pop (x := (k : Int)) (by rw [hL]; exact ho1) hL.symm
      obtain ⟨gq, lo, lc, hko, ck, hrk, hgk1, hgk2⟩ := HK.out.row (K := k) (fallL_at hkl)
      subst hko
      have ck2 := (hbl.cell (p := ⟨gq, k, none⟩) hgk2).trans ck
      have hrk2 := own_below hbl _ _ _ _ _ _ hrk
      have hkk : (kidsB ll (k : Int)).length ≤ ll.length := kidsTo_len _ _ _
      have HStp := hide (HStep.out _ _ _ ht)
      obtain ⟨fl, hfl⟩ : ∃ fl, (kidsB ll (k : Int)).reverse = fl := ⟨_, rfl⟩
      have hfll : fl.length ≤ ll.length := by rw [← hfl, List.length_reverse]; exact hkk
      rw [hfl] at ck2 hrk2 HStp
      clear hfl hkk ck hrk
      have hdl : done.length ≤ 300000000000 := by omega
      have hul : L ≤ 300000000000 := by omega
      obtain ⟨v4, w4, hr4, own4, grow4, at4⟩ := run_join (w := wr.drew) (base := w2.heap.size) (B := w1.heap.size) 22 (own_below (L5.below_drew1 wr) _ _ _ _ _ _ hpop) (own_below (L5.below_drew1 wr) _ _ _ _ _ _ hrk2) (by omega) hbl.size
      have HR4 := hide hr4
      have HOw4 := hide own4
      have HGr4 := hide grow4
      have HAt4 := hide at4
      have HO2 := hide ho2
      have HAp := hide hap
      have HBl := hide hbl
      have HT := hide ht
      obtain ⟨dvo, dvc, rfl⟩ := own_len ho2
      obtain ⟨vo4, vc4, rfl⟩ := own_len own4
      rw [← hP]
      replace hP := hide hP
      replace hL := hide hL
      clear hr4 own4 grow4 at4 ho1 ho2 hap hbl ht HS hw0 d5 d6 hkn hlu hpop hrk2
      have hwL : IntKind.i64.wrap (L : Int) = (L : Int) := IntWalk.i64_in _ ⟨by omega, by omega⟩
      go_upto_region 8 with fail
      go_region_law (refine stepP_run rfl (.tmp 26) (.tmp 30) 22 rfl _ _ rfl rfl _ w4 HR4.out ?_)
      all_goals
        have HO4 : Hid (w4.ownsRow w2.heap.size 3 1 (.slice dvo done.length dvc) done.length (ints done)) := hide ((own_below (L5.below_drew1 wr) _ _ _ _ _ _ HO2.out).kept HGr4.out (by
          rcases HAp.out.symm with q | q
          · exact .inl q
          · exact .inr q))
        have HB4 : Hid (Below w2.heap.size w2 w4) := hide (Below.grown HBl.out.drew HGr4.out HBl.out.size (fun j hj => by
          have : gw = j := by simpa [Value.ownBlock] using hj
          omega))
        have hs4 : w2.heap.size ≤ w4.heap.size := HB4.out.size
        go_wp2_with (at_builtin; refine wpList_append_own_at _ rfl (.tmp 32) (.tmp 34) 22 rfl w2.heap.size 3 i0 _ 1 8 Try.underlying22 hi0 hz0 hz1 hz2 rfl (by decide) (.slice dvo done.length dvc) done.length (ints done) rfl (HO4.out.alloc _) ⟨w4.heap.size, 0, none⟩ 1 1 [.int .i64 k] rfl rfl one_cell one_one (by unfold maxLen; omega) (by omega) (by simp; omega) ?_; intro v5 w5 own5 grow5 _ at5; refine Hid.out ?_)
        have HAp4 : Apart (.slice vo4 (L + fl.length) vc4) (.slice dvo done.length dvc) := by
          rcases HAt4.out with e | e
          · rcases HAp.out with q | q
            · simp [Value.ownBlock] at q
            · right; rw [e]; exact q
          · cases hb : (Value.slice dvo done.length dvc).ownBlock with
            | none => right; rw [e, hb]; simp
            | some j =>
              right
              rw [e, hb]
              have h1 := (HO2.out.lt j hb).2
              have h2 : wr.drew.heap.size = wr.heap.size := rfl
              rw [h2]
              simp
              omega
        have HE : Hid (DwnW ll w2 (done ++ [(k : Int)]) (up ++ fl) v5 (.slice vo4 (L + fl.length) vc4) w5) := hide (by
          have hup : (up ++ fl).length = L + fl.length := by rw [List.length_append, hL.out]
          refine ⟨HStp.out, ?_, by simpa [ints] using own5, ?_, Below.grown (HB4.out.alloc hs4 _) grow5 (by simp; omega) (fun j hj => (HO4.out.lt j hj).1)⟩
          · rw [hup]
            have := (HOw4.out.alloc (.cells #[.int .i64 k] 3)).kept grow5 HAp4
            simpa [ints] using this
          · exact Apart.grow (w := w4) HAp4 HOw4.out at5)
        have HKl2 : Hid ((downB ll 0).length - done.length + (done ++ [(k : Int)]).length = (downB ll 0).length + 1) := hide (by
          have := congrArg List.length HT.out.1
          rw [List.length_append] at this
          simp
          omega)
        have hms : (downB ll 0).length - done.length < gk := by
          have h1 := HKl.out
          have h2 := congrArg List.length HT.out.1
          rw [List.length_append] at h2
          omega
        obtain ⟨vo5, vc5, rfl⟩ := own_len own5
        clear own5 grow5 at5 HAp4
        refine hide ?_
        go_wp2_with fail
        go_roundg ((downB ll 0).length - done.length)
        case measure => exact hms
        case rel => exact ⟨_, _, HKl2, HE⟩
end Go.Proofs.Ytnlcpfijfjbgjaa
namespace Go.Proofs.Ytnlcpfijfjbgjaa
open Go Go.RowKit
open G (Tok Er Ins Fun)
theorem tree_cells {w : World} {f : Fun} {v : Value} (h : TreeV w f v) (hf : Lgt9 f) : ∃ t ub uo db dd uc dc, v = .pointer (some ⟨t, 0, none⟩) ∧ TreeC w (succsF f) (succsF f).length t ub uo db dd uc dc := by
  obtain ⟨t, ub, uo, db, dd, uc, dc, e, hc⟩ := h.cells (lgt_pos hf.1)
  rw [← succsF_len] at hc
  exact ⟨t, ub, uo, db, dd, uc, dc, e, hc⟩
theorem dom_all : Dom TreeV (fun _ => True) := by
  refine ⟨?_, ?_, ?_, ?_, ?_, ?_, ?_, ?_⟩
  · exact fun _ _ => trivial
  · exact fun h b => h.below b
  · exact fun f v w _ hv hf => of_any f v w hv (lgt_ful hf.1) (lgt_tos hf.1) (lgt_pos hf.1)
  · exact fun f a b v w hT hf _ _ => by
      obtain ⟨t, ub, uo, db, dd, uc, dc, rfl, hc⟩ := tree_cells hT hf
      exact aheadT_any hf.gr a b w hc
  · exact fun f b v w hT hf _ => by
      obtain ⟨t, ub, uo, db, dd, uc, dc, rfl, hc⟩ := tree_cells hT hf
      exact (upT_any hf.gr b w hc).mono fun e w' ⟨he, hw⟩ => ⟨he, hw ▸ Below.refl _ _⟩
  · exact fun f b v w hT hf _ => by
      obtain ⟨t, ub, uo, db, dd, uc, dc, rfl, hc⟩ := tree_cells hT hf
      exact (depthT_any hf.gr b w hc).mono fun e w' ⟨he, hw⟩ => ⟨he, hw ▸ Below.refl _ _⟩
  · exact fun f b v w hT hf _ => by
      obtain ⟨t, ub, uo, db, dd, uc, dc, rfl, hc⟩ := tree_cells hT hf
      exact (kidsT_any hf.gr (Nat.le_trans hf.few (by omega)) b w hc).mono fun e w' ⟨u, he, hu⟩ => ⟨u, he, ints_of hu.1, hu.2⟩
  · exact fun f v w hT hf => by
      obtain ⟨t, ub, uo, db, dd, uc, dc, rfl, hc⟩ := tree_cells hT hf
      exact downT_any hf.gr hf.few w hc
end Go.Proofs.Ytnlcpfijfjbgjaa
