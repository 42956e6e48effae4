/- Layer 10, the reference: Inner. -/
import Derived.Test.YtmiplohoclckcaaGreatLtBC
namespace Go.Proofs.YtmiplohoclckcaaGreat
open Go Go.RowKit
open G (Tok Er Ins Fun)
theorem tw_take {α : Type} (p : α → Bool) (l : List α) : l.takeWhile p = l.take (l.takeWhile p).length := List.prefix_iff_eq_take.1 (List.takeWhile_prefix p)
theorem tw_more {α : Type} {p : α → Bool} : ∀ (l : List α) (P : Nat) (b : α), P ≤ (l.takeWhile p).length → l[P]? = some b → p b = true → P + 1 ≤ (l.takeWhile p).length := by
  intro l
  induction l with
  | nil => intro P b _ h; simp at h
  | cons x l ih =>
    intro P b h1 h2 h3
    cases P with
    | zero =>
      simp at h2
      subst h2
      rw [List.takeWhile_cons_of_pos h3]
      simp
    | succ P =>
      cases hx : p x with
      | false => rw [List.takeWhile_cons_of_neg (by simp [hx])] at h1; simp at h1
      | true =>
        rw [List.takeWhile_cons_of_pos hx] at h1 ⊢
        have := ih P b (by simpa using h1) (by simpa using h2) h3
        simpa using this
theorem tw_stop {α : Type} {p : α → Bool} : ∀ (l : List α) (P : Nat) (b : α), P ≤ (l.takeWhile p).length → l[P]? = some b → p b = false → (l.takeWhile p).length = P := by
  intro l
  induction l with
  | nil => intro P b _ h; simp at h
  | cons x l ih =>
    intro P b h1 h2 h3
    cases P with
    | zero =>
      simp at h2
      subst h2
      rw [List.takeWhile_cons_of_neg (by simp [h3])]
      rfl
    | succ P =>
      cases hx : p x with
      | false => rw [List.takeWhile_cons_of_neg (by simp [hx])] at h1; simp at h1
      | true =>
        rw [List.takeWhile_cons_of_pos hx] at h1 ⊢
        have := ih P b (by simpa using h1) (by simpa using h2) h3
        simpa using this
theorem tw_le {α : Type} (p : α → Bool) (l : List α) : (l.takeWhile p).length ≤ l.length := (List.takeWhile_prefix p).length_le
/-- How many of the numbers so far stand ahead of a number. -/
def putAt (l : List Lp) (K : Nat) : Nat := ((innerK l K).takeWhile (fun j => decide (nB l j.toNat ≤ nB l K))).length
theorem innerK_succ (l : List Lp) (K : Nat) : innerK l (K + 1) = (innerK l K).take (putAt l K) ++ [(K : Int)] ++ (innerK l K).drop (putAt l K) := by
  unfold putAt
  rw [← tw_take]
  rfl
theorem innerK_len (l : List Lp) : ∀ K, (innerK l K).length = K := by
  intro K
  induction K with
  | zero => rfl
  | succ K ih =>
    rw [innerK_succ, List.length_append, List.length_append, List.length_take, List.length_drop, ih]
    have := tw_le (fun j => decide (nB l j.toNat ≤ nB l K)) (innerK l K)
    simp
    omega
theorem innerK_mem (l : List Lp) : ∀ (K : Nat) (k : Int), k ∈ innerK l K → ∃ J : Nat, k = J ∧ J < K := by
  intro K
  induction K with
  | zero => intro k h; simp [innerK] at h
  | succ K ih =>
    intro k h
    rw [innerK_succ, List.append_assoc, List.mem_append, List.mem_append, List.mem_singleton] at h
    rcases h with h | rfl | h
    · obtain ⟨J, e, hJ⟩ := ih k (List.mem_of_mem_take h); exact ⟨J, e, by omega⟩
    · exact ⟨K, rfl, by omega⟩
    · obtain ⟨J, e, hJ⟩ := ih k (List.mem_of_mem_drop h); exact ⟨J, e, by omega⟩
set_option maxHeartbeats 2000000 in
set_option maxRecDepth 20000 in
theorem rinner_any (l : List Lp) (v : Value) (w : World) (hv : LoopsV w l v) (hl : l.length ≤ 1000000) :
    Calls Tryz.prog 15 #[v] w fun e w' => ∃ u, e = .returned u ∧ Grw w (innerF l) u w' := by
  obtain ⟨i0, hi0, hz0, hz1, hz2⟩ := info_parts Tryz.info3
  obtain ⟨ao, c, rfl, _, _, hv3⟩ := hv
  have HC := hide hv3
  have HEnd : Hid (innerF l = innerK l l.length) := hide rfl
  clear hv3
  go_enter Tryz.func15, Tryz.ntmps15
  go_wp2_with fail
  go_loopw [3, 4] (fun ov i wr => ∃ K : Nat, K ≤ l.length ∧ i = .int .i64 K ∧ Hid (Grw w (innerK l K) ov wr) ∧ Hid (K = 0 → ov = .slice none 0 0)) (fun _ i _ => l.length - (intOf i).toNat)
  case atStart => exact ⟨0, Nat.zero_le _, rfl, hide (Grw.start _), hide (fun _ => rfl)⟩
  case round =>
    obtain ⟨K, hK, rfl, HG, HZr⟩ := hrel
    have hkl := innerK_len l K
    obtain ⟨mo, mc, rfl, _, _⟩ := HG.out.slice
    rw [hkl]
    by_cases hkt : K < l.length
    · have hkI : (K : Int) < l.length := by omega
      obtain ⟨g, o, rfl, hr⟩ := LoopsV.at HC.out hkt
      obtain ⟨bo, bc, hgl, _, a1, _, a3⟩ := lp_cells hr
      obtain ⟨pt, HPt⟩ : ∃ p, Hid (putAt l K = p) := ⟨_, hide rfl⟩
      have HIs := hide (innerK_succ l K)
      rw [HPt.out] at HIs
      have hpt : pt ≤ K := by
        have := tw_le (fun j => decide (nB l j.toNat ≤ nB l K)) (innerK l K)
        rw [← HPt.out]
        unfold putAt
        omega
      have HMem := hide (innerK_mem l K)
      clear hr
      unfold maxLen at a3
      go_wp2_with fail
      obtain ⟨w5, hw5⟩ : ∃ w5, w5 = wr := ⟨_, rfl⟩
      rw [← hw5] at HG ⊢
      clear hw5
      go_loopw [5] (fun i wr => ∃ P : Nat, P ≤ pt ∧ i = .int .i64 P ∧ Hid (Below w5.heap.size w5 wr)) (fun i _ => K - (intOf i).toNat)
      case atStart => exact ⟨0, Nat.zero_le _, rfl, hide (Below.refl _ _)⟩
      case round =>
        obtain ⟨P, hP, rfl, HW⟩ := hrel
        have HG1 := hide (HG.out.below HW.out)
        by_cases hpk : P < K
        · have hpI : (P : Int) < K := by omega
          obtain ⟨k0, hk0⟩ : ∃ k0, (innerK l K)[P]? = some k0 := ⟨_, List.getElem?_eq_getElem (by omega)⟩
          obtain ⟨J, rfl, hJ⟩ := HMem.out k0 (List.mem_of_getElem? hk0)
          have hJl : J < l.length := by omega
          have hJI : (J : Int) < l.length := by omega
          obtain ⟨g', o', e', hr2⟩ := LoopsV.at HC.out hJl
          injection e' with e'
          injection e' with e1 e2
          subst e1 e2
          obtain ⟨bo2, bc2, _, _, d1, _, d3⟩ := lp_cells hr2
          have HY := hide (fun h => tw_more (p := fun j => decide (nB l j.toNat ≤ nB l K)) (innerK l K) P J (by have := HPt.out; unfold putAt at this; omega) hk0 h)
          have HZ := hide (fun h => tw_stop (p := fun j => decide (nB l j.toNat ≤ nB l K)) (innerK l K) P J (by have := HPt.out; unfold putAt at this; omega) hk0 h)
          rcases own_view HG1.out.1 with ⟨_, hn⟩ | ⟨eg, ecap, hge, k1, k2, k3, k4, k5, k6⟩
          · omega
          injection hge with hg1 hg2 hg3
          subst hg1 hg3
          have hce := k5 P _ (show (ints (innerK l K))[P]? = some (.int .i64 (J : Int)) by simp [ints, hk0])
          have hB2 := fun x => L5.grewTo_below wr x
          have hB3 := fun x => below_step (below_step HG.out.2 HW.out) (hB2 x)
          have c1 := fun x => ((hB3 x).cell (p := ⟨g, o + K * 4 + 1, none⟩) hgl).trans a1
          have c2 := fun x => ((hB3 x).cell (p := ⟨g, o + J * 4 + 1, none⟩) hgl).trans d1
          have c3 := fun x => ((hB2 x).cell (p := ⟨eg, P, none⟩) k4).trans hce
          have HB2 := hide (fun x => below_step HW.out (hB2 x))
          unfold maxLen at d3
          clear hB2 hB3 d1 hr2 hk0 k1 k2 k3 k5 k6 hce HG1 hg2
          by_cases hle : (lpN l J).2.1.length ≤ (lpN l K).2.1.length
          · have hleI : (((lpN l J).2.1.length : Nat) : Int) ≤ (((lpN l K).2.1.length : Nat) : Int) := by omega
            have hd : decide ((((lpN l J).2.1.length : Nat) : Int) ≤ (((lpN l K).2.1.length : Nat) : Int)) = true := decide_eq_true hleI
            have hP2 : P + 1 ≤ pt := by
              have := HY.out (decide_eq_true hle)
              have e := HPt.out
              unfold putAt at e
              omega
            clear HY HZ hle
            go_wp2_with fail
            refine L5.region_grew (by kernel_rfl) (by kernel_rfl) ?_
            repeat (go_big_quiet_step (fail))
            refine wpQuiet_nil ?_
            rintro _ ⟨x, rfl⟩
            go_wp2_with fail
            go_roundw
            case rel => exact ⟨P + 1, hP2, by go_num, hide (HB2.out x)⟩
            case measure => simp [intOf]; omega
          · have hleI : ¬ (((lpN l J).2.1.length : Nat) : Int) ≤ (((lpN l K).2.1.length : Nat) : Int) := by omega
            have hd : decide ((((lpN l J).2.1.length : Nat) : Int) ≤ (((lpN l K).2.1.length : Nat) : Int)) = false := decide_eq_false hleI
            obtain rfl : pt = P := by
              have := HZ.out (decide_eq_false hle)
              have e := HPt.out
              unfold putAt at e
              omega
            clear HY HZ hle
            go_wp2_with fail
            refine L5.region_grew (by kernel_rfl) (by kernel_rfl) ?_
            repeat (go_big_quiet_step (fail))
            refine wpQuiet_nil ?_
            rintro _ ⟨x, rfl⟩
            go_upto_region 8 with fail
            have HGD := hide (HG.out.below (HB2.out x))
            generalize L5.grewTo wr x = wD at *
            clear c1 c2 c3 hd hleI HB2 HW HG
            rw [hkl] at HGD
            obtain ⟨acc, hacc⟩ : ∃ acc, innerK l K = acc := ⟨_, rfl⟩
            rw [hacc] at HGD HIs hkl
            obtain ⟨T, hT⟩ : ∃ T, acc.take pt = T := ⟨_, rfl⟩
            obtain ⟨D, hD⟩ : ∃ D, acc.drop pt = D := ⟨_, rfl⟩
            have hTl : T.length = pt := by rw [← hT, List.length_take]; omega
            have hDl : D.length = K - pt := by rw [← hD, List.length_drop]; omega
            rw [hT, hD] at HIs
            have HTat : Hid (∀ (j : Nat) (u : Value), (ints T)[j]? = some u → (ints acc)[j]? = some u) := hide (fun j u h => by
              rw [← hT] at h
              simp only [ints, List.getElem?_map, List.getElem?_take] at h ⊢
              split at h
              · exact h
              · simp at h)
            have HDat : Hid (∀ (j : Nat) (u : Value), (ints D)[j]? = some u → (ints acc)[pt + j]? = some u) := hide (fun j u h => by
              rw [← hD] at h
              simpa only [ints, List.getElem?_map, List.getElem?_drop] using h)
            have HOc : Hid (∀ (z : World), z.ownsRow w.heap.size 3 1 (.slice (some ⟨eg, 0, none⟩) K mc) acc.length (ints acc) → ∀ j u, (ints acc)[j]? = some u → z.cell? ⟨eg, j, none⟩ = some u) := hide (fun z hz j u hj => by
              rcases own_view hz with ⟨e, _⟩ | ⟨eg', ecap', hge', k1, k2, k3, k4, k5, k6⟩
              · simp at e
              injection hge' with hg1 _ _
              injection hg1 with hg1
              injection hg1 with hg1 _
              subst hg1
              exact k5 j u hj)
            have hwD := HGD.out.2.size
            have hKm : K ≤ mc := by
              rcases own_view HGD.out.1 with ⟨e, _⟩ | ⟨eg', ecap', hge', k1, _⟩
              · simp at e
              injection hge' with _ _ h3
              omega
            have HN1 : Hid (∀ j u, (ints T)[j]? = some u → wD.cell? ((⟨eg, 0, none⟩ : Addr).add j) = some u) := hide (fun j u hj => by
              have := HOc.out wD HGD.out.1 j u (HTat.out j u hj)
              by_cases hj0 : j = 0
              · subst hj0; simpa [Addr.add] using this
              · simpa [Addr.add, hj0] using this)
            have hTi : (ints T).length = pt * 1 := by simp [ints, hTl]
            clear hacc hT hD
            go_wp2_with (at_builtin; refine wpList_append_own_at _ rfl (.tmp 37) (.tmp 40) 22 rfl w.heap.size 3 i0 _ 1 8 Tryz.underlying22 hi0 hz0 hz1 hz2 rfl (by decide) (.slice none 0 0) 0 [] rfl (World.ownsRow_nil _ _ _ _) ⟨eg, 0, none⟩ pt mc (ints T) rfl hTi HN1.out ints_one (by unfold maxLen; omega) (by omega) hwD ?_; intro v1 w1 own1 grow1 _ at1; refine Hid.out ?_)
            have HG1 : Hid (Grw w T v1 w1) := hide (by
              have hg0 : Grw w [] (.slice none 0 0) wD := ⟨World.ownsRow_nil _ _ _ _, HGD.out.2⟩
              have := hg0.join (m := T) (by rw [hTl]; exact own1) grow1
              exact this)
            have HK1 : Hid (w1.ownsRow w.heap.size 3 1 (.slice (some ⟨eg, 0, none⟩) K mc) acc.length (ints acc)) := hide (HGD.out.1.kept grow1 (by right; simp [Value.ownBlock]))
            have HA1 : Hid (Apart (.slice (some ⟨eg, 0, none⟩) K mc) v1) := hide (by
              right
              have h9 := (HGD.out.1.lt eg rfl).2
              rcases at1 with e | e
              · rw [e]; simp [Value.ownBlock]
              · rw [e]; simp [Value.ownBlock]; omega)
            obtain ⟨vo1, vc1, rfl⟩ := own_len own1
            have hw1 := HG1.out.2.size
            clear own1 grow1 at1 HN1 HGD
            refine hide ?_
            go_wp2_with (at_builtin; refine wpList_append_own_at _ rfl (.tmp 42) (.tmp 44) 22 rfl w.heap.size 3 i0 _ 1 8 Tryz.underlying22 hi0 hz0 hz1 hz2 rfl (by decide) _ _ _ rfl (HG1.out.1.alloc _) ⟨w1.heap.size, 0, none⟩ 1 1 [.int .i64 K] rfl rfl one_cell one_one (by unfold maxLen; omega) (by omega) (by simp; omega) ?_; intro v2 w2 own2 grow2 _ at2; refine Hid.out ?_)
            have HG2 : Hid (Grw w (T ++ [(K : Int)]) v2 w2) := hide (HG1.out.step own2 grow2)
            have HK2 : Hid (w2.ownsRow w.heap.size 3 1 (.slice (some ⟨eg, 0, none⟩) K mc) acc.length (ints acc)) := hide ((HK1.out.alloc _).kept grow2 HA1.out)
            have HA2 : Hid (Apart (.slice (some ⟨eg, 0, none⟩) K mc) v2) := hide (by
              have h9 := (HK1.out.lt eg rfl).2
              rcases at2 with e | e
              · rcases HA1.out with h | h
                · exact .inl h
                · right; rw [e]; exact h
              · right
                rw [e]
                simp [Value.ownBlock]
                omega)
            have HN2 : Hid (∀ j u, (ints D)[j]? = some u → w2.cell? ((⟨eg, pt, none⟩ : Addr).add j) = some u) := hide (fun j u hj => by
              have := HOc.out w2 HK2.out (pt + j) _ (HDat.out j u hj)
              by_cases hj0 : j = 0
              · subst hj0; simpa [Addr.add] using this
              · simpa [Addr.add, hj0] using this)
            obtain ⟨vo2, vc2, rfl⟩ := own_len own2
            have hw2 := HG2.out.2.size
            have hDi : (ints D).length = (K - pt) * 1 := by simp [ints, hDl]
            clear own2 grow2 at2 HG1 HK1 HA1
            refine hide ?_
            by_cases hmc : mc = pt
            · have hD0 : K - pt = 0 := by omega
              go_wp2_with fail
              done
            · have hmc2 : ¬ pt = mc := fun e => hmc e.symm
              go_wp2_with (at_builtin; refine wpList_append_own_at _ rfl (.tmp 46) (.tmp 49) 22 rfl w.heap.size 3 i0 _ 1 8 Tryz.underlying22 hi0 hz0 hz1 hz2 rfl (by decide) _ _ _ rfl HG2.out.1 ⟨eg, pt, none⟩ (K - pt) (mc - pt) (ints D) rfl hDi HN2.out ints_one (by simp; unfold maxLen; omega) (by simp; omega) hw2 ?_; intro v3 w3 own3 grow3 _ at3; refine Hid.out ?_)
              have HE : Hid (Grw w (innerK l (K + 1)) v3 w3) := hide (by
                rw [HIs.out]
                exact HG2.out.join (m := D) (by rw [hDl]; exact own3) grow3)
              clear own3 grow3 at3 HG2 HK2 HA2 HN2
              refine hide ?_
              go_wp2_with fail
              go_roundw
              case rel => exact ⟨K + 1, by omega, by go_num, HE, hide (fun e => by omega)⟩
              case measure => simp [intOf]; omega
        · obtain rfl : pt = P := by omega
          have hpe : pt = K := by omega
          have hpI : ¬ (pt : Int) < (K : Int) := by omega
          by_cases hp0 : pt = 0
          · obtain rfl : pt = K := hpe
            subst hp0
            have hge := HZr.out rfl
            · injection hge with hg1 _ hg3
              subst hg1 hg3
              have HB2 := hide (fun x => below_step HW.out (L5.grewTo_below wr x))
              clear HG1
              go_wp2_with fail
              refine L5.region_grew (by kernel_rfl) (by kernel_rfl) ?_
              repeat (go_big_quiet_step (fail))
              refine wpQuiet_nil ?_
              rintro _ ⟨x, rfl⟩
              go_upto_region 8 with fail
              have HGD := hide (HG.out.below (HB2.out x))
              generalize L5.grewTo wr x = wD at *
              clear HB2 HW HG
              have hwD := HGD.out.2.size
              go_wp2_with (at_builtin; refine wpList_append_own_none rfl (.tmp 37) (.tmp 40) 22 rfl w.heap.size 3 i0 1 Tryz.underlying22 hi0 (.slice none 0 0) 0 [] rfl (World.ownsRow_nil _ _ _ _) rfl ?_; refine Hid.out ?_)
              refine hide ?_
              go_wp2_with (at_builtin; refine wpList_append_own_at _ rfl (.tmp 42) (.tmp 44) 22 rfl w.heap.size 3 i0 _ 1 8 Tryz.underlying22 hi0 hz0 hz1 hz2 rfl (by decide) (.slice none 0 0) 0 [] rfl (World.ownsRow_nil _ _ _ _) ⟨wD.heap.size, 0, none⟩ 1 1 [.int .i64 0] rfl rfl one_cell one_one (by unfold maxLen; omega) (by omega) (by simp; omega) ?_; intro v2 w2 own2 grow2 _ at2; refine Hid.out ?_)
              have HE : Hid (Grw w (innerK l (0 + 1)) v2 w2) := hide (by
                have hg0 : Grw w [] (.slice none 0 0) wD := ⟨World.ownsRow_nil _ _ _ _, HGD.out.2⟩
                exact hg0.step (x := 0) own2 grow2)
              have HO2 := hide own2
              obtain ⟨vo2, vc2, rfl⟩ := own_len own2
              clear own2 grow2 at2
              refine hide ?_
              go_wp2_with (at_builtin; refine wpList_append_own_none rfl (.tmp 46) (.tmp 49) 22 rfl w.heap.size 3 i0 1 Tryz.underlying22 hi0 _ _ _ rfl HO2.out rfl ?_; refine Hid.out ?_)
              refine hide ?_
              go_wp2_with fail
              go_roundw
              case rel => exact ⟨0 + 1, by omega, by go_num, HE, hide (fun e => by omega)⟩
              case measure => simp [intOf]; omega
          · obtain rfl : K = pt := hpe.symm
            rcases own_view HG1.out.1 with ⟨_, hn⟩ | ⟨eg, ecap, hge, k1, k2, k3, k4, k5, k6⟩
            · omega
            injection hge with hg1 hg2 hg3
            subst hg1 hg3
            have HB2 := hide (fun x => below_step HW.out (L5.grewTo_below wr x))
            clear HG1 hg2 k1 k2 k3 k4 k5 k6
            go_wp2_with fail
            refine L5.region_grew (by kernel_rfl) (by kernel_rfl) ?_
            repeat (go_big_quiet_step (fail))
            refine wpQuiet_nil ?_
            rintro _ ⟨x, rfl⟩
            go_upto_region 8 with fail
            have HGD := hide (HG.out.below (HB2.out x))
            generalize L5.grewTo wr x = wD at *
            clear HB2 HW HG
            rw [hkl] at HGD
            obtain ⟨acc, hacc⟩ : ∃ acc, innerK l K = acc := ⟨_, rfl⟩
            rw [hacc] at HGD HIs hkl
            obtain ⟨T, hT⟩ : ∃ T, acc.take K = T := ⟨_, rfl⟩
            obtain ⟨D, hD⟩ : ∃ D, acc.drop K = D := ⟨_, rfl⟩
            have hTl : T.length = K := by rw [← hT, List.length_take]; omega
            obtain rfl : D = [] := by rw [← hD]; exact List.drop_eq_nil_of_le (by omega)
            rw [hT, hD] at HIs
            have HTat : Hid (∀ (j : Nat) (u : Value), (ints T)[j]? = some u → (ints acc)[j]? = some u) := hide (fun j u h => by
              rw [← hT] at h
              simp only [ints, List.getElem?_map, List.getElem?_take] at h ⊢
              split at h
              · exact h
              · simp at h)
            have HOc : Hid (∀ (z : World), z.ownsRow w.heap.size 3 1 (.slice (some ⟨eg, 0, none⟩) K mc) acc.length (ints acc) → ∀ j u, (ints acc)[j]? = some u → z.cell? ⟨eg, j, none⟩ = some u) := hide (fun z hz j u hj => by
              rcases own_view hz with ⟨e, _⟩ | ⟨eg', ecap', hge', k1, k2, k3, k4, k5, k6⟩
              · simp at e
              injection hge' with hg1 _ _
              injection hg1 with hg1
              injection hg1 with hg1 _
              subst hg1
              exact k5 j u hj)
            have hwD := HGD.out.2.size
            have hKm : K ≤ mc := by
              rcases own_view HGD.out.1 with ⟨e, _⟩ | ⟨eg', ecap', hge', k1, _⟩
              · simp at e
              injection hge' with _ _ h3
              omega
            have HN1 : Hid (∀ j u, (ints T)[j]? = some u → wD.cell? ((⟨eg, 0, none⟩ : Addr).add j) = some u) := hide (fun j u hj => by
              have := HOc.out wD HGD.out.1 j u (HTat.out j u hj)
              by_cases hj0 : j = 0
              · subst hj0; simpa [Addr.add] using this
              · simpa [Addr.add, hj0] using this)
            have hTi : (ints T).length = K * 1 := by simp [ints, hTl]
            clear hacc hT hD
            go_wp2_with (at_builtin; refine wpList_append_own_at _ rfl (.tmp 37) (.tmp 40) 22 rfl w.heap.size 3 i0 _ 1 8 Tryz.underlying22 hi0 hz0 hz1 hz2 rfl (by decide) (.slice none 0 0) 0 [] rfl (World.ownsRow_nil _ _ _ _) ⟨eg, 0, none⟩ K mc (ints T) rfl hTi HN1.out ints_one (by unfold maxLen; omega) (by omega) hwD ?_; intro v1 w1 own1 grow1 _ at1; refine Hid.out ?_)
            have HG1 : Hid (Grw w T v1 w1) := hide (by
              have hg0 : Grw w [] (.slice none 0 0) wD := ⟨World.ownsRow_nil _ _ _ _, HGD.out.2⟩
              have := hg0.join (m := T) (by rw [hTl]; exact own1) grow1
              exact this)
            have HK1 : Hid (w1.ownsRow w.heap.size 3 1 (.slice (some ⟨eg, 0, none⟩) K mc) acc.length (ints acc)) := hide (HGD.out.1.kept grow1 (by right; simp [Value.ownBlock]))
            have HA1 : Hid (Apart (.slice (some ⟨eg, 0, none⟩) K mc) v1) := hide (by
              right
              have h9 := (HGD.out.1.lt eg rfl).2
              rcases at1 with e | e
              · rw [e]; simp [Value.ownBlock]
              · rw [e]; simp [Value.ownBlock]; omega)
            obtain ⟨vo1, vc1, rfl⟩ := own_len own1
            have hw1 := HG1.out.2.size
            clear own1 grow1 at1 HN1 HGD
            refine hide ?_
            go_wp2_with (at_builtin; refine wpList_append_own_at _ rfl (.tmp 42) (.tmp 44) 22 rfl w.heap.size 3 i0 _ 1 8 Tryz.underlying22 hi0 hz0 hz1 hz2 rfl (by decide) _ _ _ rfl (HG1.out.1.alloc _) ⟨w1.heap.size, 0, none⟩ 1 1 [.int .i64 K] rfl rfl one_cell one_one (by unfold maxLen; omega) (by omega) (by simp; omega) ?_; intro v2 w2 own2 grow2 _ at2; refine Hid.out ?_)
            have HG2 : Hid (Grw w (T ++ [(K : Int)]) v2 w2) := hide (HG1.out.step own2 grow2)
            have HK2 : Hid (w2.ownsRow w.heap.size 3 1 (.slice (some ⟨eg, 0, none⟩) K mc) acc.length (ints acc)) := hide ((HK1.out.alloc _).kept grow2 HA1.out)
            have HA2 : Hid (Apart (.slice (some ⟨eg, 0, none⟩) K mc) v2) := hide (by
              have h9 := (HK1.out.lt eg rfl).2
              rcases at2 with e | e
              · rcases HA1.out with h | h
                · exact .inl h
                · right; rw [e]; exact h
              · right
                rw [e]
                simp [Value.ownBlock]
                omega)
            obtain ⟨vo2, vc2, rfl⟩ := own_len own2
            have hw2 := HG2.out.2.size
            clear own2 grow2 at2 HG1 HK1 HA1
            refine hide ?_
            by_cases hmc : mc = K
            · go_wp2_with (at_builtin; refine wpList_append_own_at _ rfl (.tmp 46) (.tmp 49) 22 rfl w.heap.size 3 i0 _ 1 8 Tryz.underlying22 hi0 hz0 hz1 hz2 rfl (by decide) _ _ _ rfl HG2.out.1 _ 0 _ [] rfl rfl (fun j u h => by simp at h) (fun u h => by simp at h) (by simp; unfold maxLen; omega) (by simp; omega) hw2 ?_; intro v3 w3 own3 grow3 _ at3; refine Hid.out ?_)
              have HE : Hid (Grw w (innerK l (K + 1)) v3 w3) := hide (by
                rw [HIs.out]
                exact HG2.out.join (m := []) own3 grow3)
              clear own3 grow3 at3 HG2
              refine hide ?_
              go_wp2_with fail
              go_roundw
              case rel => exact ⟨K + 1, by omega, by go_num, HE, hide (fun e => by omega)⟩
              case measure => simp [intOf]; omega
            · have hmc2 : ¬ K = mc := fun e => hmc e.symm
              go_wp2_with (at_builtin; refine wpList_append_own_at _ rfl (.tmp 46) (.tmp 49) 22 rfl w.heap.size 3 i0 _ 1 8 Tryz.underlying22 hi0 hz0 hz1 hz2 rfl (by decide) _ _ _ rfl HG2.out.1 _ 0 _ [] rfl rfl (fun j u h => by simp at h) (fun u h => by simp at h) (by simp; unfold maxLen; omega) (by simp; omega) hw2 ?_; intro v3 w3 own3 grow3 _ at3; refine Hid.out ?_)
              have HE : Hid (Grw w (innerK l (K + 1)) v3 w3) := hide (by
                rw [HIs.out]
                exact HG2.out.join (m := []) own3 grow3)
              clear own3 grow3 at3 HG2
              refine hide ?_
              go_wp2_with fail
              go_roundw
              case rel => exact ⟨K + 1, by omega, by go_num, HE, hide (fun e => by omega)⟩
              case measure => simp [intOf]; omega
    · obtain rfl : K = l.length := by omega
      go_wp2_with fail
      go_ret
      exact ⟨_, rfl, by rw [HEnd.out]; have := HG.out; rw [hkl] at this; exact this⟩
end Go.Proofs.YtmiplohoclckcaaGreat
