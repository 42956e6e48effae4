/- Layer 12: what is reached is reached by a step, or is one of the first (PoolReaches), over memory. -/
import Derived.Test.YthmeafnofckoiaaDoorPmN
namespace Go.Proofs.YthmeafnofckoiaaDoor
open Go Go.RowKit
open Layertwelve (Ob trapF objN loadF storeF slotF wordsF shapeF makeF firstF slotsF goF reachF Ok Holds)

/-- Bytes in memory. -/
def BytR (w : World) (l : List Int) (ao : Option Addr) : Prop := l = [] ∨ ∃ b o, ao = some ⟨b, o, none⟩ ∧ b < w.heap.size ∧ ∀ i n, l[i]? = some n → w.cell? ⟨b, o + i, none⟩ = some (.int .u8 n)
theorem BytR.at {w : World} {l : List Int} {ao : Option Addr} (h : BytR w l ao) {i : Nat} (hi : i < l.length) : ∃ b o, ao = some ⟨b, o, none⟩ ∧ ∀ w', Below w.heap.size w w' → w'.cell? ⟨b, o + i, none⟩ = some (.int .u8 (l.getD i 0)) := by
  rcases h with h | ⟨b, o, e, hb, h⟩
  · subst h; simp at hi
  · exact ⟨b, o, e, fun w' bl => (bl.cell (p := ⟨b, o + i, none⟩) hb).trans (h i _ (by rw [List.getD_eq_getElem?_getD, List.getElem?_eq_getElem hi]; rfl))⟩
theorem IntsR.base {w : World} {l : List Int} {ao : Option Addr} (h : IntsR w l ao) (hne : 0 < l.length) : ∃ b o, ao = some ⟨b, o, none⟩ ∧ ∀ i, i < l.length → ∀ w', Below w.heap.size w w' → w'.cell? ⟨b, o + i, none⟩ = some (.int .i64 (l.getD i 0)) := by
  rcases h with h | ⟨b, o, e, hb, h⟩
  · subst h; simp at hne
  · exact ⟨b, o, e, fun i hi w' bl => (bl.cell (p := ⟨b, o + i, none⟩) hb).trans (h i _ (by rw [List.getD_eq_getElem?_getD, List.getElem?_eq_getElem hi]; rfl))⟩
theorem getD_at {l : List Int} {i : Nat} (h : i < l.length) : l[i]? = some (l.getD i 0) := by rw [List.getD_eq_getElem?_getD, List.getElem?_eq_getElem h]; rfl
theorem mem_getD {l : List Int} {x : Int} (h : x ∈ l) : ∃ i, i < l.length ∧ l.getD i 0 = x := by
  obtain ⟨i, hi⟩ := List.mem_iff_getElem?.1 h
  exact ⟨i, (List.getElem?_eq_some_iff.1 hi).1, by rw [List.getD_eq_getElem?_getD, hi]; rfl⟩
theorem load_holds {l : List Ob} (hs : ∀ o ∈ l, Sh o) {y : Int} {s : Nat} (h : (loadF has l y s true).2 = 0) : Holds has (objN l y) (loadF has l y s true).1 := by
  rw [load_trap] at h
  have ht := Layertwelve.trap_in h
  obtain ⟨_, _, n3⟩ := hs _ (List.mem_of_getElem? (Layertwelve.objN_mem ht.1 ht.2.1))
  refine ⟨s, by have := ht.2.2.2.1; omega, ht.2.2.2.2, ?_⟩
  unfold loadF
  rw [if_neg (by simpa using h)]; rfl
theorem holds_load {l : List Ob} (hs : ∀ o ∈ l, Sh o) {y x : Int} (h1 : 1 ≤ y) (h2 : y ≤ l.length) (h : Holds has (objN l y) x) : ∃ s : Nat, s < 16 ∧ loadF has l y s true = (x, 0) := by
  obtain ⟨s, s1, s2, s3⟩ := h
  obtain ⟨n1, _, n3⟩ := hs _ (List.mem_of_getElem? (Layertwelve.objN_mem h1 h2))
  refine ⟨s, by omega, ?_⟩
  have ht : trapF has l y s true = 0 := by
    show (if y = 0 then (1 : Int) else if y < 0 ∨ (l.length : Int) < y then 2 else if (s : Int) < 0 ∨ ((objN l y).1.1 : Int) ≤ s ∨ has (objN l y).1.1 (objN l y).1.2 s ≠ true then 2 else 0) = 0
    rw [if_neg (by omega), if_neg (by omega), if_neg (by rintro (q | q | q) <;> first | omega | exact q s2)]
  unfold loadF
  rw [if_neg (by simpa using ht)]
  show ((objN l y).2.getD s 0, (0 : Int)) = (x, 0)
  rw [s3]
set_option maxHeartbeats 8000000 in
set_option maxRecDepth 20000 in
theorem reaches_any (L : List OpT) (fr : List Int) (ao fo : Option Addr) (c fc : Nat) (w : World) (hL : OpsR w L ao) (hF : BytR w fr fo) (hfr : ∀ x ∈ fr, 0 ≤ x ∧ x < 256) (ht : Tab w) :
    Calls Tryd.prog 5 #[.slice ao L.length c, .slice fo fr.length fc] w fun e w' => e = .returned (.bool true) ∧ Below w.heap.size w w' := by
  have HT := hide ht
  have CW := hide (fun wr (b : Below w.heap.size w wr) => works_any wr (ht.below b))
  have HLen : Hid (∀ i, i < L.length → ∃ (g o : Nat) (x : OpT), ao = some ⟨g, o, none⟩ ∧ ∀ w', Below w.heap.size w w' → OpAt w' x g (o + i * 6)) := hide (fun i hi => hL.at hi)
  have HFen := hide (fun i (hi : i < fr.length) => hF.at hi)
  have HFr := hide (fun i (hi : i < fr.length) => hfr _ (List.mem_of_getElem? (getD_at hi)))
  have HTk : Hid (∀ i, i < fr.length → fr.take (i + 1) = fr.take i ++ [fr.getD i 0]) := hide (fun i hi => by
    rw [List.take_add_one, getD_at hi]; rfl)
  have HTl : Hid (fr.take fr.length = fr) := hide List.take_length
  have HTn : Hid (∀ i, i ≤ fr.length → (fr.take i).length = i) := hide (fun i hi => by simp; omega)
  clear hL hF hfr ht
  obtain ⟨ln, hln⟩ : ∃ n, n = L.length := ⟨_, rfl⟩
  rw [← hln] at HLen ⊢
  clear hln
  obtain ⟨fl, hfl⟩ : ∃ n, n = fr.length := ⟨_, rfl⟩
  rw [← hfl] at HFen HFr HTk HTl HTn ⊢
  have HFl := hide hfl
  clear hfl
  by_cases hbig : 60 < ln ∨ 20 < fl
  · by_cases h1 : 60 < ln
    case' pos => have h1I : (60 : Int) < (ln : Int) := by omega
    case' neg =>
      have h1I : ¬ (60 : Int) < (ln : Int) := by omega
      have h2I : (20 : Int) < (fl : Int) := by omega
    all_goals
      clear hbig
      go_enter Tryd.func5, Tryd.ntmps5
      go_wp2_with fail
      refine (CW.out w (Below.refl _ _)).mono ?_; rintro e w1 ⟨rfl, b1⟩
      have B1 := hide b1
      clear b1
      go_wp2_with fail
      go_ret
      exact ⟨rfl, B1.out⟩
  have h60 : (ln : Int) ≤ 60 := by omega
  have h20 : (fl : Int) ≤ 20 := by omega
  clear hbig
  have CN := hide (bnew_any w)
  obtain ⟨gp, hgp⟩ : ∃ g, g = w.heap.size := ⟨_, rfl⟩
  rw [← hgp] at CN
  clear hgp
  go_enter Tryd.func5, Tryd.ntmps5
  go_wp2_with fail
  refine CN.out.mono ?_; rintro e w1 ⟨rfl, p1⟩
  have HP1 := hide p1
  clear p1 CN
  go_wp2_with fail
  go_loopw [6] (fun iv wr => ∃ (i : Nat) (l : List Ob), i ≤ ln ∧ iv = .int .i64 i ∧ l.length ≤ i ∧ Hid (∀ o ∈ l, Sh o) ∧ Hid (PB w gp l wr)) (fun iv _ => ln - (intOf iv).toNat)
  case atStart => exact ⟨0, [], Nat.zero_le _, rfl, Nat.le_refl _, hide (by simp), HP1⟩
  case round =>
    obtain ⟨i, l, hi, rfl, hli, HS, HP⟩ := hrel
    clear HP1
    by_cases hit : i < ln
    · have hiI : (i : Int) < (ln : Int) := by omega
      obtain ⟨g, o, x, rfl, hx⟩ := HLen.out i hit
      obtain ⟨⟨a0, a1, a2, a3, a4, a5⟩, a6⟩ := hx wr HP.out.2
      clear hx
      obtain ⟨x0, x1, x2, x3, x4, x5⟩ := x
      by_cases hk : x0 = 0
      · subst hk
        have hS := shN_le x2
        have hM : x5 % 2 ^ shN x2 < 2 ^ shN x2 := Nat.mod_lt _ (Nat.two_pow_pos _)
        have CS := hide (fun w' (b : Below wr.heap.size wr w') => (lshape_any x2 x5 w' a6).mono (fun e w2 (q : e = _ ∧ Below w'.heap.size w' w2) => (And.intro q.1 (below_step b q.2) : e = .returned (.agg #[.int .i64 (shN x2 : Int), .int .i64 ((x5 % 2 ^ shN x2 : Nat) : Int)]) ∧ Below wr.heap.size wr w2)))
        have CM := hide (fun w' (b : Below wr.heap.size wr w') => bmake_any (shN x2) (x5 % 2 ^ shN x2) (HP.out.below b) HS.out hS hM (by omega))
        have HSn := hide (sh_make HS.out hS hM)
        have hlen : (makeF l (shN x2, x5 % 2 ^ shN x2)).length ≤ i + 1 := by simp [makeF]; omega
        clear hS hM a1 a3 a4
        generalize makeF l (shN x2, x5 % 2 ^ shN x2) = l2 at *
        generalize x5 % 2 ^ shN x2 = mm at *
        generalize shN x2 = nn at *
        go_upto_region 10 with fail
        go_region_with ((first
          | (go_at_call 8; refine (CS.out _ (below_drew1 wr)).mono ?_; rintro e w2 ⟨rfl, b2⟩; have B2 := hide b2)
          | (go_at_call 10; refine (CM.out _ B2.out).mono ?_; rintro e w3 ⟨rfl, p3⟩; have P3 := hide p3)))
        all_goals
          clear CS CM
          go_wp2_with fail
          go_roundw
          case rel => exact ⟨i + 1, l2, by omega, by go_num, hlen, HSn, P3⟩
          case measure => simp [intOf]; omega
      · have k1 : (x0 == 0) = false := by simpa using hk
        have CM := hide (fun w' (b : Below wr.heap.size wr w') => bstore_any x1 x2 true x4 (HP.out.below b) HS.out HT.out)
        have HSn := hide (sh_store (id := x1) (slot := x2) (p := true) (n := x4) HS.out)
        have hlen : (storeF has l x1 x2 true x4).length ≤ i + 1 := by rw [store_len12]; omega
        clear a5 a6 a3
        generalize storeF has l x1 x2 true x4 = l2 at *
        generalize trapF has l x1 x2 true = tr at *
        go_upto_region 11 with fail
        apply wp_prop (fun w' => PB w gp l2 w')
        · intro K0 HK0
          go_region_with ((go_at_call 14; refine (CM.out _ (below_drew1 wr)).mono ?_; rintro e w3 ⟨rfl, p3⟩))
          all_goals
            show K0 _ _
            exact HK0 _ p3
        · intro w3 p3
          have P3 := hide p3
          clear p3 CM
          go_wp2_with fail
          go_roundw
          case rel => exact ⟨i + 1, l2, by omega, by go_num, hlen, HSn, P3⟩
          case measure => simp [intOf]; omega
    · have hll : l.length ≤ 60 := by omega
      have HP2 := hide (fun w' (b : Below wr.heap.size wr w') => HP.out.below b)
      have hz2 : w.heap.size ≤ wr.heap.size := HP.out.2.size
      have HO0 : Hid (OutR wr (fr.take 0) (.slice none 0 0) wr) := hide ⟨by simpa using World.ownsRow_nil wr wr.heap.size 3 1, Below.refl _ _⟩
      have HFen2 : Hid (∀ i, i < fl → ∃ b o, fo = some ⟨b, o, none⟩ ∧ ∀ w', Below wr.heap.size wr w' → w'.cell? ⟨b, o + i, none⟩ = some (.int .u8 (fr.getD i 0))) := hide (fun i hi => by
        obtain ⟨b, o, e, h⟩ := HFen.out i hi
        exact ⟨b, o, e, fun w' bl => h w' (below_step HP.out.2 bl)⟩)
      obtain ⟨w2, hw2⟩ : ∃ w2, w2 = wr := ⟨_, rfl⟩
      rw [← hw2] at HP2 hz2 HO0 HFen2
      have HW2 := hide hw2
      clear HP HFen HLen hli
      obtain ⟨i0, hi0, hiz, his, hib⟩ := info12_parts Tryd.info3
      go_wp2_with fail
      go_loopw [7, 8] (fun fv iv wr => ∃ i : Nat, i ≤ fl ∧ iv = .int .i64 i ∧ Hid (OutR w2 (fr.take i) fv wr)) (fun _ iv _ => fl - (intOf iv).toNat)
      case atStart => exact ⟨0, Nat.zero_le _, rfl, by rw [← HW2.out]; exact HO0⟩
      case round =>
        obtain ⟨i, hi, rfl, HO⟩ := hrel
        clear HO0 HW2
        by_cases hit : i < fl
        · have hiI : (i : Int) < (fl : Int) := by omega
          obtain ⟨b, o, rfl, d⟩ := HFen2.out i hit
          have d0 := d wr HO.out.2
          obtain ⟨hx1, hx2⟩ := HFr.out i hit
          have HTe := hide (HTk.out i hit)
          have hTn := HTn.out i hi
          have HOw := hide HO.out.1
          have HSt := hide (fun v' w' x o' g' => HO.out.step (v' := v') (w2 := w') (x := x) o' g')
          have hz3 : w2.heap.size ≤ wr.heap.size := HO.out.2.size
          clear d HO
          generalize fr.take i = cur at *
          generalize fr.getD i 0 = x at *
          have hcv : IntKind.i64.wrap x = x := IntWalk.i64_in _ ⟨by omega, by omega⟩
          obtain ⟨vo, vc, hv⟩ := own12_len HOw.out
          subst hv
          rw [hTn] at HOw HSt ⊢
          go_wp2_with (at_builtin; refine wpList_append_own_at _ rfl (.tmp 82) (.tmp 88) 48 rfl w2.heap.size 3 i0 _ 1 8 Tryd.underlying48 hi0 hiz his hib rfl (by decide) (.slice vo i vc) i (ints12 cur) rfl (HOw.out.alloc _) ⟨wr.heap.size, 0, none⟩ 1 1 [.int .i64 x] rfl rfl one12_cell one12_one (by unfold maxLen; omega) (by omega) (by simp; omega) ?_; intro v5 w5 own5 grow5 _ at5; refine Hid.out ?_)
          obtain ⟨vo5, vc5, hv5⟩ := own12_len own5
          subst hv5
          have HN := hide (HSt.out _ w5 x own5 grow5)
          clear own5 grow5 at5 HSt HOw d0
          refine hide ?_
          go_wp2_with fail
          go_roundw
          case rel => exact ⟨i + 1, by omega, by go_num, by rw [HTe.out]; exact HN⟩
          case measure => simp [intOf]; omega
        · obtain rfl : i = fl := by omega
          have hO := HO.out
          rw [HTl.out] at hO
          obtain ⟨fo2, fc2, hv, hI⟩ := hO.val
          subst hv
          have CR := hide (breach_any fr fo2 fc2 (HP2.out wr hO.2) HS.out HT.out (by omega) hI (by rw [← HFl.out]; omega))
          rw [← HFl.out] at CR ⊢
          have HI := hide hI
          have HRW := hide (Layertwelve.reach_walk (has := has) l fr)
          clear HO hO hI HFen2 HFr HTk HTl HTn
          generalize reachF has l fr = R at *
          go_wp2_with fail
          refine CR.out.mono ?_; rintro e w4 ⟨v, rfl, o4, p4⟩
          obtain ⟨ro, rc, hv, hR⟩ := o4.val
          subst hv
          have HIf := hide (HI.out.below o4.2)
          have HIr := hide hR
          have HP4 := hide p4
          have hRl : R.length ≤ 60 := Nat.le_trans HRW.out.1.len hll
          have CL : Hid (∀ w', Below w4.heap.size w4 w' → ∀ y s : Int, Calls Tryd.prog 11 #[.pointer (some ⟨gp, 0, none⟩), .int .i64 y, .int .i64 s, .bool true] w' fun e w'' => e = .returned (.tuple #[.int .i64 (loadF has l y s true).1, .int .i64 (loadF has l y s true).2]) ∧ Below w4.heap.size w4 w'') := hide (fun w' b y s => (pload_any l y s true gp w' ((HP4.out.below b).read HS.out) HS.out (HT.out.below (HP4.out.below b).2)).mono fun e w'' q => ⟨q.1, below_step b q.2⟩)
          have CE : Hid (∀ w', Below w4.heap.size w4 w' → Calls Tryd.prog 16 #[.pointer (some ⟨gp, 0, none⟩)] w' fun e w'' => e = .returned (.int .i64 (l.length : Int)) ∧ w'' = w') := hide (fun w' b => plen_any l gp w' ((HP4.out.below b).read HS.out))
          have CW4 : Hid (∀ w', Below w4.heap.size w4 w' → Calls Tryd.prog 6 #[] w' fun e w'' => e = .returned (.bool true) ∧ Below w.heap.size w w'') := hide (fun w' b => (CW.out w' (HP4.out.below b).2).mono fun e w'' q => ⟨q.1, below_step (HP4.out.below b).2 q.2⟩)
          clear o4 p4 hR CR HI HP2 CW
          obtain ⟨rl, hrl⟩ : ∃ n, n = R.length := ⟨_, rfl⟩
          rw [← hrl] at hRl ⊢
          have HRl := hide hrl
          clear hrl
          go_wp2_with fail
          go_loopw [10] (fun iv wr => ∃ i : Nat, i ≤ rl ∧ iv = .int .i64 i ∧ Hid (Below w4.heap.size w4 wr)) (fun iv _ => rl - (intOf iv).toNat)
          case atStart => exact ⟨0, Nat.zero_le _, rfl, hide (Below.refl _ _)⟩
          case round =>
            obtain ⟨j, hj, rfl, HB⟩ := hrel
            by_cases hjt : j < rl
            · have hjI : (j : Int) < (rl : Int) := by omega
              obtain ⟨rb, rf, rfl, hrc⟩ := HIr.out.base (by rw [← HRl.out]; omega)
              have HRc : Hid (∀ k, k < rl → ∀ w', Below w4.heap.size w4 w' → w'.cell? ⟨rb, rf + k, none⟩ = some (.int .i64 (R.getD k 0))) := hide (fun k hk => hrc k (by rw [← HRl.out]; exact hk))
              clear hrc
              obtain ⟨x, hx⟩ : ∃ x, x = R.getD j 0 := ⟨_, rfl⟩
              have HXm : Hid (R[j]? = some x) := hide (by rw [hx]; exact getD_at (by rw [← HRl.out]; exact hjt))
              have HXc : Hid (∀ w', Below w4.heap.size w4 w' → w'.cell? ⟨rb, rf + j, none⟩ = some (.int .i64 x)) := hide (fun w' b => by rw [hx]; exact HRc.out j hjt w' b)
              clear hx
              go_wp2_with fail
              go_loopw [11, 12] (fun bv kv wr => ∃ (b : Bool) (k : Nat), bv = .bool b ∧ kv = .int .i64 k ∧ k ≤ i ∧ Hid ((∃ q, q < k ∧ fr.getD q 0 = x) → b = true) ∧ Hid (Below w4.heap.size w4 wr)) (fun _ kv _ => i - (intOf kv).toNat)
              case atStart => exact ⟨false, 0, rfl, rfl, Nat.zero_le _, hide (fun ⟨q, h, _⟩ => absurd h (Nat.not_lt_zero _)), HB⟩
              case round =>
                obtain ⟨b, k, rfl, rfl, hk, HC, HBk⟩ := hrel
                by_cases hkt : k < i
                · have hkI : (k : Int) < (i : Int) := by omega
                  obtain ⟨fb, ff, rfl, hfc⟩ := HIf.out.base (by rw [← HFl.out]; omega)
                  have d1 := hfc k (by rw [← HFl.out]; exact hkt) wr HBk.out
                  have d2 := HXc.out wr HBk.out
                  clear hfc
                  cases b with
                  | true =>
                    go_upto_region 25 with fail
                    go_quiet (fail)
                    go_wp2_with fail
                    go_roundw
                    case rel => exact ⟨true, k + 1, rfl, by go_num, by omega, hide (fun _ => rfl), hide (below_drew HBk.out _)⟩
                    case measure => simp [intOf]; omega
                  | false =>
                    have HC2 : Hid ((∃ q, q < k + 1 ∧ fr.getD q 0 = x) → (fr.getD k 0 == x) = true) := hide (fun ⟨q, h1, h2⟩ => by
                      by_cases e : q = k
                      · subst e; simpa using h2
                      · exact absurd (HC.out ⟨q, by omega, h2⟩) (by simp))
                    clear HC
                    generalize fr.getD k 0 = y at *
                    go_upto_region 25 with fail
                    go_quiet (fail)
                    go_wp2_with fail
                    go_roundw
                    case rel => exact ⟨y == x, k + 1, rfl, by go_num, by omega, HC2, hide (below_drew HBk.out _)⟩
                    case measure => simp [intOf]; omega
                · obtain rfl : k = i := by omega
                  have HC1 : Hid (x ∈ fr → b = true) := hide (fun h => HC.out (by
                    obtain ⟨q, q1, q2⟩ := mem_getD h
                    exact ⟨q, by rw [HFl.out]; exact q1, q2⟩))
                  clear HC
                  have HXr := hide (HRW.out.1.2 x (List.mem_of_getElem? HXm.out))
                  go_wp2_with fail
                  go_loopw [11, 13] (fun bv kv wr => ∃ (b : Bool) (m : Nat), bv = .bool b ∧ kv = .int .i64 m ∧ m ≤ j ∧ Hid ((x ∈ fr ∨ ∃ (q : Nat) (y : Int), q < m ∧ R[q]? = some y ∧ Holds has (objN l y) x) → b = true) ∧ Hid (Below w4.heap.size w4 wr)) (fun _ kv _ => j - (intOf kv).toNat)
                  case atStart => exact ⟨b, 0, rfl, rfl, Nat.zero_le _, hide (fun h => h.elim HC1.out (fun ⟨q, _, h, _⟩ => absurd h (Nat.not_lt_zero _))), HBk⟩
                  case round =>
                    obtain ⟨b, m, rfl, rfl, hm, HC, HBm⟩ := hrel
                    clear HC1 HBk
                    by_cases hmt : m < j
                    · have hmI : (m : Int) < (j : Int) := by omega
                      have hmr : (m : Int) < (rl : Int) := by omega
                      obtain ⟨y, hy⟩ : ∃ y, y = R.getD m 0 := ⟨_, rfl⟩
                      have HYm : Hid (R[m]? = some y) := hide (by rw [hy]; exact getD_at (by rw [← HRl.out]; omega))
                      have HYc : Hid (∀ w', Below w4.heap.size w4 w' → w'.cell? ⟨rb, rf + m, none⟩ = some (.int .i64 y)) := hide (fun w' b => by rw [hy]; exact HRc.out m (by omega) w' b)
                      clear hy
                      have hyx : (y == x) = false := by
                        have : y ≠ x := fun e => by
                          have h1 := HYm.out
                          rw [e, ← HXm.out] at h1
                          have h2 := (List.getElem?_inj (List.getElem?_eq_some_iff.1 HYm.out).1 HRW.out.1.1).1 h1
                          omega
                        simpa using this
                      have HYr := hide (HRW.out.1.2 y (List.mem_of_getElem? HYm.out))
                      have d1 := HYc.out wr HBm.out
                      have d2 := HXc.out wr HBm.out
                      go_upto_region 29 with fail
                      go_quiet (fail)
                      clear d1 d2
                      go_wp2_with fail
                      go_loopw [11, 14] (fun bv sv wr => ∃ (b : Bool) (s : Nat), bv = .bool b ∧ sv = .int .i64 s ∧ s ≤ 16 ∧ Hid (((x ∈ fr ∨ ∃ (q : Nat) (y : Int), q < m ∧ R[q]? = some y ∧ Holds has (objN l y) x) ∨ ∃ q : Nat, q < s ∧ loadF has l y (q : Int) true = (x, 0)) → b = true) ∧ Hid (Below w4.heap.size w4 wr)) (fun _ sv _ => 16 - (intOf sv).toNat)
                      case atStart => exact ⟨b, 0, rfl, rfl, Nat.zero_le _, hide (fun h => h.elim HC.out (fun ⟨q, h, _⟩ => absurd h (Nat.not_lt_zero _))), hide (below_drew HBm.out _)⟩
                      case round =>
                        obtain ⟨b, s, rfl, rfl, hs, HCs, HBs⟩ := hrel
                        clear HC HBm
                        by_cases hst : s < 16
                        · have hsI : (s : Int) < 16 := by omega
                          have d1 := HYc.out wr HBs.out
                          have C1 := hide (CL.out wr HBs.out y (s : Int))
                          obtain ⟨lv, hlv⟩ : ∃ lv, lv = loadF has l y (s : Int) true := ⟨_, rfl⟩
                          rw [← hlv] at C1
                          have HLv := hide hlv
                          clear hlv
                          obtain ⟨n, t⟩ := lv
                          have C2 : Hid (Calls Tryd.prog 11 #[.pointer (some ⟨gp, 0, none⟩), .int .i64 y, .int .i64 (s : Int), .bool true] wr fun e w'' => e = .returned (.tuple #[.int .i64 n, .int .i64 t]) ∧ Below w4.heap.size w4 w'') := C1
                          clear C1
                          go_wp2_with fail
                          refine C2.out.mono ?_; rintro e w5 ⟨rfl, b5⟩
                          have d2 := HXc.out w5 b5
                          have HB5 := hide b5
                          clear b5 C2 d1 HBs
                          by_cases hn : t = 0 ∧ n = x
                          · have q1 : (t == 0) = true := by simpa using hn.1
                            have q2 : (n == x) = true := by simpa using hn.2
                            clear hn
                            go_wp2_with fail
                            go_roundw
                            case rel => exact ⟨true, s + 1, rfl, by go_num, by omega, hide (fun _ => rfl), HB5⟩
                            case measure => simp [intOf]; omega
                          · have HC2 : Hid (((x ∈ fr ∨ ∃ (q : Nat) (y : Int), q < m ∧ R[q]? = some y ∧ Holds has (objN l y) x) ∨ ∃ q : Nat, q < s + 1 ∧ loadF has l y (q : Int) true = (x, 0)) → b = true) := hide (fun h => HCs.out (h.imp id (fun ⟨q, h1, h2⟩ => by
                              by_cases e : q = s
                              · subst e
                                rw [← HLv.out] at h2
                                injection h2 with e1 e2
                                exact absurd ⟨e2, e1⟩ hn
                              · exact ⟨q, by omega, h2⟩)))
                            by_cases h0 : t = 0
                            case' pos =>
                              have q1 : (t == 0) = true := by simpa using h0
                              have q2 : (n == x) = false := by simpa using fun e => hn ⟨h0, e⟩
                              clear h0
                            case' neg =>
                              have q1 : (t == 0) = false := by simpa using h0
                              clear h0
                            all_goals
                              clear hn HCs
                              go_wp2_with fail
                              go_roundw
                              case rel => exact ⟨b, s + 1, rfl, by go_num, by omega, HC2, HB5⟩
                              case measure => simp [intOf]; omega
                        · obtain rfl : s = 16 := by omega
                          have HC2 : Hid ((x ∈ fr ∨ ∃ (q : Nat) (y : Int), q < m + 1 ∧ R[q]? = some y ∧ Holds has (objN l y) x) → b = true) := hide (fun h => HCs.out (by
                            rcases h with h | ⟨q, z, h1, h2, h3⟩
                            · exact .inl (.inl h)
                            · by_cases e : q = m
                              · subst e
                                rw [HYm.out] at h2
                                injection h2 with h2
                                subst h2
                                obtain ⟨s, s1, s2⟩ := holds_load HS.out HYr.out.1 HYr.out.2 h3
                                exact .inr ⟨s, s1, s2⟩
                              · exact .inl (.inr ⟨q, z, by omega, h2, h3⟩)))
                          clear HCs
                          go_wp2_with fail
                          go_roundw
                          case rel => exact ⟨b, m + 1, rfl, by go_num, by omega, HC2, HBs⟩
                          case measure => simp [intOf]; omega
                    · obtain rfl : m = j := by omega
                      obtain rfl : b = true := HC.out (HRW.out.2.1 m x HXm.out)
                      clear HC
                      go_wp2_with fail
                      go_loopw [17] (fun sv wr => ∃ s : Nat, s ≤ 16 ∧ sv = .int .i64 s ∧ Hid (Below w4.heap.size w4 wr)) (fun sv _ => 16 - (intOf sv).toNat)
                      case atStart => exact ⟨0, Nat.zero_le _, rfl, HBm⟩
                      case round =>
                        obtain ⟨s, hs, rfl, HBs⟩ := hrel
                        clear HBm
                        by_cases hst : s < 16
                        · have hsI : (s : Int) < 16 := by omega
                          have d1 := HXc.out wr HBs.out
                          have C1 := hide (CL.out wr HBs.out x (s : Int))
                          have HH := hide (fun h => load_holds (l := l) HS.out (y := x) (s := s) h)
                          obtain ⟨lv, hlv⟩ : ∃ lv, lv = loadF has l x (s : Int) true := ⟨_, rfl⟩
                          rw [← hlv] at C1 HH
                          clear hlv
                          obtain ⟨n, t⟩ := lv
                          have HH2 : Hid (t = 0 → Holds has (objN l x) n) := HH
                          have C2 : Hid (Calls Tryd.prog 11 #[.pointer (some ⟨gp, 0, none⟩), .int .i64 x, .int .i64 (s : Int), .bool true] wr fun e w'' => e = .returned (.tuple #[.int .i64 n, .int .i64 t]) ∧ Below w4.heap.size w4 w'') := C1
                          clear C1 HH
                          go_wp2_with fail
                          refine C2.out.mono ?_; rintro e w5 ⟨rfl, b5⟩
                          have C3 := hide (CE.out w5 b5)
                          have HB5 := hide b5
                          clear b5 C2 d1 HBs
                          by_cases h0 : t = 0
                          · have q1 : (t == 0) = true := by simpa using h0
                            have q2 : (t != 0) = false := by simpa using h0
                            have HHn := hide (HH2.out h0)
                            clear h0
                            by_cases h1 : n < 1
                            · go_wp2_with fail
                              go_roundw
                              case rel => exact ⟨s + 1, by omega, by go_num, HB5⟩
                              case measure => simp [intOf]; omega
                            · have h1' : 1 ≤ n := by omega
                              by_cases h2 : (l.length : Int) < n
                              · go_wp2_with fail
                                refine C3.out.mono ?_; rintro e w6 ⟨rfl, rfl⟩
                                go_wp2_with fail
                                go_roundw
                                case rel => exact ⟨s + 1, by omega, by go_num, HB5⟩
                                case measure => simp [intOf]; omega
                              · have HnR := hide (HRW.out.2.2 x (List.mem_of_getElem? HXm.out) n HHn.out h1' (by omega))
                                go_wp2_with fail
                                refine C3.out.mono ?_; rintro e w6 ⟨rfl, rfl⟩
                                clear C3
                                go_wp2_with fail
                                go_loopw [20, 21] (fun bv kv wr => ∃ (b : Bool) (k : Nat), bv = .bool b ∧ kv = .int .i64 k ∧ k ≤ rl ∧ Hid ((∃ q, q < k ∧ R.getD q 0 = n) → b = true) ∧ Hid (Below w4.heap.size w4 wr)) (fun _ kv _ => rl - (intOf kv).toNat)
                                case atStart => exact ⟨false, 0, rfl, rfl, Nat.zero_le _, hide (fun ⟨q, h, _⟩ => absurd h (Nat.not_lt_zero _)), HB5⟩
                                case round =>
                                  obtain ⟨b, u, rfl, rfl, hu, HC, HBu⟩ := hrel
                                  clear HB5
                                  by_cases hut : u < rl
                                  · have huI : (u : Int) < (rl : Int) := by omega
                                    have d3 := HRc.out u hut wr HBu.out
                                    cases b with
                                    | true =>
                                      go_wp2_with fail
                                      go_roundw
                                      case rel => exact ⟨true, u + 1, rfl, by go_num, by omega, hide (fun _ => rfl), HBu⟩
                                      case measure => simp [intOf]; omega
                                    | false =>
                                      have HC2 : Hid ((∃ q, q < u + 1 ∧ R.getD q 0 = n) → (R.getD u 0 == n) = true) := hide (fun ⟨q, h1, h2⟩ => by
                                        by_cases e : q = u
                                        · subst e; simpa using h2
                                        · exact absurd (HC.out ⟨q, by omega, h2⟩) (by simp))
                                      clear HC
                                      generalize R.getD u 0 = z at *
                                      go_wp2_with fail
                                      go_roundw
                                      case rel => exact ⟨z == n, u + 1, rfl, by go_num, by omega, HC2, HBu⟩
                                      case measure => simp [intOf]; omega
                                  · obtain rfl : u = rl := by omega
                                    obtain rfl : b = true := HC.out (by
                                      obtain ⟨q, q1, q2⟩ := mem_getD HnR.out
                                      exact ⟨q, by rw [HRl.out]; exact q1, q2⟩)
                                    clear HC
                                    go_wp2_with fail
                                    go_roundw
                                    case rel => exact ⟨s + 1, by omega, by go_num, HBu⟩
                                    case measure => simp [intOf]; omega
                          · have q1 : (t == 0) = false := by simpa using h0
                            have q2 : (t != 0) = true := by simpa using h0
                            clear h0
                            go_wp2_with fail
                            go_roundw
                            case rel => exact ⟨s + 1, by omega, by go_num, HB5⟩
                            case measure => simp [intOf]; omega
                        · obtain rfl : s = 16 := by omega
                          go_wp2_with fail
                          go_roundw
                          case rel => exact ⟨m + 1, by omega, by go_num, HBs⟩
                          case measure => simp [intOf]; omega
            · obtain rfl : j = rl := by omega
              have CW5 := hide (CW4.out wr HB.out)
              go_wp2_with fail
              refine CW5.out.mono ?_; rintro e w6 ⟨rfl, b6⟩
              have B6 := hide b6
              clear b6 CW5
              go_wp2_with fail
              go_ret
              exact ⟨rfl, B6.out⟩
end Go.Proofs.YthmeafnofckoiaaDoor
