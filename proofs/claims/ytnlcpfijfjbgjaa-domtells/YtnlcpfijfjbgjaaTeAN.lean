/- Layer 9, the reference: the table is read: ahead, how deep, the last one ahead, whom one is the last one ahead of. Layer 9, the reference: down the tree. -/
import Derived.Test.YtnlcpfijfjbgjaaTeAM
import Derived.Laws.OwnMore
namespace Go.Proofs.Ytnlcpfijfjbgjaa
open Go Go.RowKit
open G (Tok Er Ins Fun)
/-- The table, as it is read. -/
def TabL (w : World) (ll : List (List Int)) (v : Value) : Prop := ∃ b o c, v = .slice (some ⟨b, o, none⟩) ll.length c ∧ b < w.heap.size ∧ ∀ i : Nat, i < ll.length → ∃ lb lo lc, w.cell? ⟨b, o + i, none⟩ = some (.slice (some ⟨lb, lo, none⟩) ll.length lc) ∧ lb < w.heap.size ∧
  ∀ j : Nat, j < ll.length → w.cell? ⟨lb, lo + j, none⟩ = some (.bool (aheadB ll i j))
theorem TabL.below {w w' : World} {ll : List (List Int)} {v : Value} (h : TabL w ll v) (hb : Below w.heap.size w w') : TabL w' ll v := by
  obtain ⟨b, o, c, e, h1, h2⟩ := h
  refine ⟨b, o, c, e, Nat.lt_of_lt_of_le h1 hb.size, fun i hi => ?_⟩
  obtain ⟨lb, lo, lc, k1, k2, k3⟩ := h2 i hi
  exact ⟨lb, lo, lc, (hb.cell (p := ⟨b, o + i, none⟩) h1).trans k1, Nat.lt_of_lt_of_le k2 hb.size, fun j hj => (hb.cell (p := ⟨lb, lo + j, none⟩) k2).trans (k3 j hj)⟩
theorem TabO.read {B : Nat} {w : World} {ll : List (List Int)} {v : Value} (h : TabO B w (tabOf ll) v) (hn : 0 < ll.length) : TabL w ll v := by
  obtain ⟨us, h1, h2, h3⟩ := h
  have hl : (tabOf ll).length = ll.length := tabTo_len _ _
  rw [hl] at h1
  rcases own_view h1 with ⟨_, e⟩ | ⟨g, cap, e, k1, k2, k3, k4, k5, k6⟩
  · omega
  refine ⟨g, 0, cap, e, k4, fun i hi => ?_⟩
  obtain ⟨u, q1, q2⟩ := h3 i _ (tabTo_at hi)
  rw [rowTo_len] at q2
  rcases own_view q2 with ⟨_, e⟩ | ⟨g2, cap2, e2, m1, m2, m3, m4, m5, m6⟩
  · omega
  refine ⟨g2, 0, cap2, by rw [Nat.zero_add, k5 i u q1, e2], m4, fun j hj => ?_⟩
  rw [Nat.zero_add]
  exact m5 j _ (bools_at (rowTo_at hj))
theorem ahead_low {ll : List (List Int)} (h : Gr ll) {a b : Int} (hab : ¬ (0 ≤ a ∧ a < ll.length ∧ 0 ≤ b ∧ b < ll.length)) : aheadB ll a b = false := by
  rw [ahead_no h]
  intro k
  have h1 := k.1.num h
  have h2 := k.2.1.num h
  exact hab ⟨h1.1, h1.2, h2.1, h2.2⟩
set_option maxHeartbeats 4000000 in
set_option maxRecDepth 20000 in
theorem rahead_any (ll : List (List Int)) (a b : Int) (v : Value) (w : World) (hv : TabL w ll v) (hg : Gr ll) :
    Calls Try.prog 11 #[v, .int .i64 a, .int .i64 b] w fun e w' => e = .returned (.bool (aheadB ll a b)) ∧ w' = w := by
  obtain ⟨tb, to, tc, rfl, h1, h2⟩ := hv
  have H2 := hide h2
  have HLow := hide (fun h => ahead_low (a := a) (b := b) hg h)
  clear h2 hg
  by_cases ha0 : a < 0
  · have HE := hide (HLow.out (by omega))
    rw [HE.out]
    go_enter Try.func11, Try.ntmps11
    go_wp2_with fail
    go_ret
    exact ⟨rfl, rfl⟩
  by_cases hb0 : b < 0
  · have HE := hide (HLow.out (by omega))
    rw [HE.out]
    go_enter Try.func11, Try.ntmps11
    go_wp2_with fail
    go_ret
    exact ⟨rfl, rfl⟩
  obtain ⟨A, rfl⟩ : ∃ A : Nat, a = (A : Int) := ⟨a.toNat, by omega⟩
  obtain ⟨K, rfl⟩ : ∃ K : Nat, b = (K : Int) := ⟨b.toNat, by omega⟩
  by_cases ha1 : (ll.length : Int) ≤ A
  · have HE := hide (HLow.out (by omega))
    rw [HE.out]
    go_enter Try.func11, Try.ntmps11
    go_wp2_with fail
    go_ret
    exact ⟨rfl, rfl⟩
  by_cases hb1 : (ll.length : Int) ≤ K
  · have HE := hide (HLow.out (by omega))
    rw [HE.out]
    go_enter Try.func11, Try.ntmps11
    go_wp2_with fail
    go_ret
    exact ⟨rfl, rfl⟩
  have hAl : A < ll.length := by omega
  have hKl : K < ll.length := by omega
  have hAI : (A : Int) < ll.length := by omega
  have hKI : (K : Int) < ll.length := by omega
  obtain ⟨lb, lo, lc, k1, k2, k3⟩ := H2.out A hAl
  have k4 := k3 K hKl
  clear k3 H2 HLow
  go_enter Try.func11, Try.ntmps11
  go_wp2_with fail
  go_ret
  exact ⟨rfl, rfl⟩
/-- Does a block count for how deep another one is? -/
def dpB (ll : List (List Int)) (b : Int) (a : Nat) : Bool := decide ((a : Int) ≠ b) && aheadB ll a b
theorem cntB_max (p : Nat → Bool) : ∀ n, cntB p n ≤ n := by
  intro n
  induction n with
  | zero => exact Nat.le_refl _
  | succ n ih =>
    rw [cntB_succ]
    split <;> omega
theorem depth_max (ll : List (List Int)) (b : Int) : depthB ll b ≤ ll.length := cntB_max _ _
set_option maxHeartbeats 4000000 in
set_option maxRecDepth 20000 in
theorem rdepth_any (ll : List (List Int)) (b : Int) (v : Value) (w : World) (hv : TabL w ll v) (hg : Gr ll) (hl : ll.length ≤ 1000000) :
    Calls Try.prog 15 #[v, .int .i64 b] w fun e w' => e = .returned (.int .i64 (depthB ll b)) ∧ w' = w := by
  have HA := hide (fun a => rahead_any ll a b v w hv hg)
  obtain ⟨tb, to, tc, rfl, _, _⟩ := hv
  go_enter Try.func15, Try.ntmps15
  go_wp2_with fail
  go_loopw [5, 6] (fun nv i wr => ∃ K : Nat, K ≤ ll.length ∧ i = .int .i64 K ∧ nv = .int .i64 (cntB (dpB ll b) K) ∧ wr = w) (fun _ i _ => ll.length - (intOf i).toNat)
  case atStart => exact ⟨0, Nat.zero_le _, rfl, rfl, rfl⟩
  case round =>
    obtain ⟨K, hK, rfl, rfl, rfl⟩ := hrel
    have hmx := cntB_max (dpB ll b) K
    by_cases hkt : K < ll.length
    · have hkI : (K : Int) < ll.length := by omega
      have HSu := hide (cntB_succ (dpB ll b) K)
      by_cases hKb : (K : Int) = b
      · have hne : ((K : Int) != b) = false := by simpa using hKb
        have HE : Hid (cntB (dpB ll b) (K + 1) = cntB (dpB ll b) K) := hide (by rw [HSu.out]; simp [dpB, hKb])
        replace hKb := hide hKb
        go_wp2_with fail
        go_roundw
        case rel => exact ⟨K + 1, by omega, by go_num, by rw [HE.out], by first | trivial | rfl⟩
        case measure => simp [intOf]; omega
      · have hne : ((K : Int) != b) = true := by simpa using hKb
        have HK := hide (HA.out K)
        go_wp2_with fail
        refine HK.out.mono ?_; rintro e w8 ⟨rfl, rfl⟩
        cases hh : aheadB ll K b with
        | true =>
          have HE : Hid (cntB (dpB ll b) (K + 1) = cntB (dpB ll b) K + 1) := hide (by rw [HSu.out]; simp [dpB, hKb, hh])
          replace hKb := hide hKb
          replace hh := hide hh
          go_wp2_with fail
          go_roundw
          case rel => exact ⟨K + 1, by omega, by go_num, by rw [HE.out]; go_num, by first | trivial | rfl⟩
          case measure => simp [intOf]; omega
        | false =>
          have HE : Hid (cntB (dpB ll b) (K + 1) = cntB (dpB ll b) K) := hide (by rw [HSu.out]; simp [dpB, hh])
          replace hKb := hide hKb
          replace hh := hide hh
          go_wp2_with fail
          go_roundw
          case rel => exact ⟨K + 1, by omega, by go_num, by rw [HE.out], by first | trivial | rfl⟩
          case measure => simp [intOf]; omega
    · obtain rfl : K = ll.length := by omega
      go_wp2_with fail
      go_ret
      exact ⟨rfl, rfl⟩
/-- The first number that has a property, of the first so many. -/
def firstB (p : Nat → Bool) : Nat → Int
  | 0 => -1
  | n + 1 => if 0 ≤ firstB p n then firstB p n else if p n then n else -1
theorem firstB_none {p : Nat → Bool} : ∀ n, (∀ j, j < n → p j = false) → firstB p n = -1 := by
  intro n
  induction n with
  | zero => intro _; rfl
  | succ n ih =>
    intro h
    have h1 := ih (fun j hj => h j (by omega))
    simp [firstB, h1, h n (by omega)]
theorem firstB_some {p : Nat → Bool} {K : Nat} (hp : p K = true) (h0 : ∀ j, j < K → p j = false) : ∀ n, K < n → firstB p n = K := by
  intro n
  induction n with
  | zero => intro h; omega
  | succ n ih =>
    intro h
    by_cases e : K = n
    · subst e
      have h1 := firstB_none K h0
      simp [firstB, h1, hp]
    · have h1 := ih (by omega)
      simp [firstB, h1]
/-- Is a block the last one ahead of another one? The last one ahead. -/
def isUpB (ll : List (List Int)) (b : Int) (a : Nat) : Bool := decide ((a : Int) ≠ b) && aheadB ll a b && decide (depthB ll a + 1 = depthB ll b)
def upB (ll : List (List Int)) (b : Int) : Int := firstB (isUpB ll b) ll.length
set_option maxHeartbeats 4000000 in
set_option maxRecDepth 20000 in
theorem rup_any (ll : List (List Int)) (b : Int) (v : Value) (w : World) (hv : TabL w ll v) (hg : Gr ll) (hl : ll.length ≤ 1000000) :
    Calls Try.prog 13 #[v, .int .i64 b] w fun e w' => e = .returned (.int .i64 (upB ll b)) ∧ w' = w := by
  have HA := hide (fun a => rahead_any ll a b v w hv hg)
  have HD := hide (fun a => rdepth_any ll a v w hv hg hl)
  have HDb := hide (rdepth_any ll b v w hv hg hl)
  obtain ⟨tb, to, tc, rfl, _, _⟩ := hv
  have hmb := depth_max ll b
  go_enter Try.func13, Try.ntmps13
  go_wp2_with fail
  refine HDb.out.mono ?_; rintro e w1 ⟨rfl, rfl⟩
  clear HDb
  go_wp2_with fail
  go_loopw [6] (fun i wr => ∃ K : Nat, K ≤ ll.length ∧ i = .int .i64 K ∧ Hid (∀ j, j < K → isUpB ll b j = false) ∧ wr = w1) (fun i _ => ll.length - (intOf i).toNat)
  case atStart => exact ⟨0, Nat.zero_le _, rfl, hide (fun j hj => by omega), rfl⟩
  case round =>
    obtain ⟨K, hK, rfl, HF, rfl⟩ := hrel
    have hmk := depth_max ll K
    by_cases hkt : K < ll.length
    · have hkI : (K : Int) < ll.length := by omega
      have HNo : Hid (isUpB ll b K = false → ∀ j, j < K + 1 → isUpB ll b j = false) := hide (fun h j hj => by
        by_cases e : j = K
        · subst e; exact h
        · exact HF.out j (by omega))
      by_cases hKb : (K : Int) = b
      · have hne : ((K : Int) != b) = false := by simpa using hKb
        have HE := hide (HNo.out (by simp [isUpB, hKb]))
        replace hKb := hide hKb
        go_wp2_with fail
        go_roundw
        case rel => exact ⟨K + 1, by omega, by go_num, HE, by first | trivial | rfl⟩
        case measure => simp [intOf]; omega
      · have hne : ((K : Int) != b) = true := by simpa using hKb
        have HKa := hide (HA.out K)
        have HKd := hide (HD.out K)
        go_wp2_with fail
        refine HKa.out.mono ?_; rintro e w8 ⟨rfl, rfl⟩
        cases hh : aheadB ll K b with
        | false =>
          have HE := hide (HNo.out (by simp [isUpB, hh]))
          replace hKb := hide hKb
          replace hh := hide hh
          go_wp2_with fail
          go_roundw
          case rel => exact ⟨K + 1, by omega, by go_num, HE, by first | trivial | rfl⟩
          case measure => simp [intOf]; omega
        | true =>
          have HHh := hide hh
          have HKb := hide hKb
          clear hh hKb
          go_wp2_with fail
          refine HKd.out.mono ?_; rintro e w9 ⟨rfl, rfl⟩
          by_cases hd : depthB ll K + 1 = depthB ll b
          · have hbe : ((depthB ll K : Int) == (depthB ll b : Int) - 1) = true := beq_iff_eq.2 (by omega)
            have HE : Hid (upB ll b = K) := hide (firstB_some (by simp [isUpB, HHh.out, HKb.out, hd]) HF.out _ hkt)
            replace hd := hide hd
            go_wp2_with fail
            go_ret
            exact ⟨by rw [HE.out]; rfl, rfl⟩
          · have hbe : ((depthB ll K : Int) == (depthB ll b : Int) - 1) = false := beq_eq_false_iff_ne.2 (by omega)
            have HE := hide (HNo.out (by simp [isUpB, hd]))
            replace hd := hide hd
            go_wp2_with fail
            go_roundw
            case rel => exact ⟨K + 1, by omega, by go_num, HE, by first | trivial | rfl⟩
            case measure => simp [intOf]; omega
    · obtain rfl : K = ll.length := by omega
      have HE : Hid (upB ll b = -1) := hide (firstB_none _ HF.out)
      go_wp2_with fail
      go_ret
      exact ⟨by rw [HE.out]; rfl, rfl⟩
/-- Whom a block is the last one ahead of. -/
def kidsTo (ll : List (List Int)) (b : Int) (K : Nat) : List Int := ((List.range K).filter fun (a : Nat) => decide (0 ≤ b) && decide (upB ll a = b)).map Int.ofNat
def kidsB (ll : List (List Int)) (b : Int) : List Int := kidsTo ll b ll.length
theorem kidsTo_yes {ll : List (List Int)} {b : Int} {K : Nat} (h0 : 0 ≤ b) (h : upB ll K = b) : kidsTo ll b (K + 1) = kidsTo ll b K ++ [(K : Int)] := by
  unfold kidsTo; rw [List.range_succ, List.filter_append, List.map_append]; simp [h0, h]
theorem kidsTo_no {ll : List (List Int)} {b : Int} {K : Nat} (h : ¬ (0 ≤ b ∧ upB ll K = b)) : kidsTo ll b (K + 1) = kidsTo ll b K := by
  unfold kidsTo; rw [List.range_succ, List.filter_append, List.map_append]
  have e : (decide (0 ≤ b) && decide (upB ll K = b)) = false := by
    rw [Bool.and_eq_false_iff]
    by_cases h0 : 0 ≤ b
    · exact .inr (by simpa using fun e => h ⟨h0, e⟩)
    · exact .inl (by simpa using h0)
  simp [e]
theorem kidsTo_len (ll : List (List Int)) (b : Int) (K : Nat) : (kidsTo ll b K).length ≤ K := by
  unfold kidsTo; rw [List.length_map]
  exact Nat.le_trans (List.length_filter_le _ _) (by simp)
set_option maxHeartbeats 4000000 in
set_option maxRecDepth 20000 in
theorem rkids_any (ll : List (List Int)) (b : Int) (v : Value) (w : World) (hv : TabL w ll v) (hg : Gr ll) (hl : ll.length ≤ 1000000) :
    Calls Try.prog 18 #[v, .int .i64 b] w fun e w' => ∃ u, e = .returned u ∧ Grw w (kidsB ll b) u w' := by
  obtain ⟨i0, hi0, hz0, hz1, hz2⟩ := info_parts Try.info3
  have HU := hide (fun a w' (h : Below w.heap.size w w') => rup_any ll a v w' (hv.below h) hg hl)
  obtain ⟨tb, to, tc, rfl, _, _⟩ := hv
  go_enter Try.func18, Try.ntmps18
  go_wp2_with fail
  go_loopw [5, 6] (fun nv i wr => ∃ K : Nat, K ≤ ll.length ∧ i = .int .i64 K ∧ Hid (Grw w (kidsTo ll b K) nv wr)) (fun _ i _ => ll.length - (intOf i).toNat)
  case atStart => exact ⟨0, Nat.zero_le _, rfl, hide (Grw.start _)⟩
  case round =>
    obtain ⟨K, hK, rfl, HG⟩ := hrel
    have hkl := kidsTo_len ll b K
    obtain ⟨mo, mc, rfl, _, _⟩ := HG.out.slice
    by_cases hkt : K < ll.length
    · have hkI : (K : Int) < ll.length := by omega
      by_cases hb0 : 0 ≤ b
      · have HUK := hide (HU.out K wr HG.out.2)
        go_wp2_with fail
        refine HUK.out.mono ?_; rintro e w8 ⟨rfl, rfl⟩
        by_cases hu : upB ll K = b
        · have hbe : (upB ll K == b) = true := beq_iff_eq.2 hu
          have HA := hide (kidsTo_yes hb0 hu)
          have hWs := HG.out.2.size
          replace hu := hide hu
          go_wp2_with (at_builtin; refine wpList_append_own _ rfl (.tmp 22) (.tmp 24) 22 rfl w.heap.size 3 i0 _ 1 8 Try.underlying22 hi0 hz0 hz1 hz2 rfl (by decide) _ _ _ rfl (HG.out.1.alloc _) ⟨w8.heap.size, 0, none⟩ 1 1 [.int .i64 K] rfl rfl one_cell one_one (by unfold maxLen; omega) (by omega) (by simp; omega) ?_; intro v2 w2 own2 grow2 _; refine Hid.out ?_)
          have HE : Hid (Grw w (kidsTo ll b (K + 1)) v2 w2) := hide (by rw [HA.out]; exact HG.out.step own2 grow2)
          clear own2 grow2
          refine hide ?_
          go_wp2_with fail
          go_roundw
          case rel => exact ⟨K + 1, by omega, by go_num, HE⟩
          case measure => simp [intOf]; omega
        · have hbe : (upB ll K == b) = false := beq_eq_false_iff_ne.2 hu
          have HE : Hid (Grw w (kidsTo ll b (K + 1)) _ w8) := hide (by rw [kidsTo_no (fun h => hu h.2)]; exact HG.out)
          replace hu := hide hu
          go_wp2_with fail
          go_roundw
          case rel => exact ⟨K + 1, by omega, by go_num, HE⟩
          case measure => simp [intOf]; omega
      · have HE : Hid (Grw w (kidsTo ll b (K + 1)) _ wr) := hide (by rw [kidsTo_no (fun h => hb0 h.1)]; exact HG.out)
        go_wp2_with fail
        go_roundw
        case rel => exact ⟨K + 1, by omega, by go_num, HE⟩
        case measure => simp [intOf]; omega
    · obtain rfl : K = ll.length := by omega
      go_wp2_with fail
      go_ret
      exact ⟨_, rfl, HG.out⟩
end Go.Proofs.Ytnlcpfijfjbgjaa
namespace Go.Proofs.Ytnlcpfijfjbgjaa
open Go Go.RowKit
open G (Tok Er Ins Fun)
theorem firstB_spec {p : Nat → Bool} : ∀ n, 0 ≤ firstB p n → p (firstB p n).toNat = true ∧ firstB p n < n := by
  intro n
  induction n with
  | zero => intro h; simp [firstB] at h
  | succ n ih =>
    intro h
    by_cases h0 : 0 ≤ firstB p n
    · have e : firstB p (n + 1) = firstB p n := by simp [firstB, h0]
      rw [e]
      have := ih h0
      exact ⟨this.1, by omega⟩
    · cases hp : p n with
      | true =>
        have e : firstB p (n + 1) = n := by simp [firstB, h0, hp]
        rw [e]
        exact ⟨by simpa using hp, by omega⟩
      | false =>
        have e : firstB p (n + 1) = -1 := by simp [firstB, h0, hp]
        rw [e] at h
        omega
theorem upB_is {ll : List (List Int)} (h : Gr ll) {b : Int} (h0 : 0 ≤ upB ll b) : IsUp ll b (upB ll b) := by
  have h1 := (firstB_spec _ h0).1
  have e : (((upB ll b).toNat : Nat) : Int) = upB ll b := Int.toNat_of_nonneg h0
  have h2 : isUpB ll b (upB ll b).toNat = true := h1
  unfold isUpB at h2
  rw [e] at h2
  simp only [Bool.and_eq_true, decide_eq_true_eq, ahead_iff h] at h2
  exact ⟨h2.1.1, h2.1.2, h2.2⟩
theorem upB_eq {ll : List (List Int)} (h : Gr ll) {b a : Int} (ha : IsUp ll b a) : upB ll b = a := by
  obtain ⟨n0, n1⟩ := ha.2.1.1.num h
  obtain ⟨A, rfl⟩ : ∃ A : Nat, a = (A : Int) := ⟨a.toNat, by omega⟩
  refine firstB_some (K := A) ?_ ?_ _ (by omega)
  · unfold isUpB
    simp only [Bool.and_eq_true, decide_eq_true_eq, ahead_iff h]
    exact ⟨⟨ha.1, ha.2.1⟩, ha.2.2⟩
  · intro j hj
    cases hp : isUpB ll b j with
    | false => rfl
    | true =>
      exfalso
      unfold isUpB at hp
      simp only [Bool.and_eq_true, decide_eq_true_eq, ahead_iff h] at hp
      have := IsUp.one h ⟨hp.1.1, hp.1.2, hp.2⟩ ha
      omega
theorem upB_no {ll : List (List Int)} (h : Gr ll) {b : Int} (hb : ∀ a, ¬ IsUp ll b a) : upB ll b = -1 := by
  by_cases h0 : 0 ≤ upB ll b
  · exact absurd (upB_is h h0) (hb _)
  · refine firstB_none _ fun j hj => ?_
    cases hp : isUpB ll b j with
    | false => rfl
    | true =>
      exfalso
      unfold isUpB at hp
      simp only [Bool.and_eq_true, decide_eq_true_eq, ahead_iff h] at hp
      exact hb _ ⟨hp.1.1, hp.1.2, hp.2⟩
theorem mem_kids {ll : List (List Int)} {b m : Int} (h : m ∈ kidsB ll b) : 0 ≤ b ∧ 0 ≤ m ∧ m < ll.length ∧ upB ll m = b := by
  unfold kidsB kidsTo at h
  obtain ⟨a, ha, rfl⟩ := List.mem_map.1 h
  obtain ⟨h1, h2⟩ := List.mem_filter.1 ha
  simp only [Bool.and_eq_true, decide_eq_true_eq] at h2
  exact ⟨h2.1, by simp, by simpa using h1, h2.2⟩
theorem kid_deep {ll : List (List Int)} (hg : Gr ll) {b m : Int} (h : m ∈ kidsB ll b) : depthB ll b + 1 = depthB ll m := by
  obtain ⟨h0, _, _, e⟩ := mem_kids h
  subst e
  exact (upB_is hg h0).2.2
/-- Down the tree from a block, no deeper than so far. -/
def downN (ll : List (List Int)) : Nat → Int → List Int
  | 0, _ => []
  | N + 1, b => b :: (kidsB ll b).flatMap (downN ll N)
def downB (ll : List (List Int)) (b : Int) : List Int := downN ll (ll.length + 1) b
theorem downs_max {ll : List (List Int)} (hl : ll.length ≤ 10) {M : Nat} {d : Int → List Int} (hd : ∀ b, (d b).length ≤ M) (b : Int) (J : Nat) : (((kidsB ll b).take J).flatMap d).length ≤ 10 * M := by
  have key : ∀ l : List Int, (l.flatMap d).length ≤ l.length * M := by
    intro l
    induction l with
    | nil => simp
    | cons x l ih =>
      rw [List.flatMap_cons, List.length_append, List.length_cons, Nat.succ_mul]
      have := hd x
      omega
  have h1 := key ((kidsB ll b).take J)
  have h2 : ((kidsB ll b).take J).length ≤ 10 := by
    have := kidsTo_len ll b ll.length
    have h3 : (kidsB ll b).length ≤ ll.length := this
    rw [List.length_take]
    omega
  exact Nat.le_trans h1 (Nat.mul_le_mul_right M h2)
theorem downN_max {ll : List (List Int)} (hl : ll.length ≤ 10) : ∀ (N : Nat) (b : Int), (downN ll N b).length ≤ 11 ^ N := by
  intro N
  induction N with
  | zero => intro b; simp [downN]
  | succ N ih =>
    intro b
    have h1 := downs_max hl ih b (kidsB ll b).length
    rw [List.take_length] at h1
    have h2 : 1 ≤ 11 ^ N := Nat.one_le_pow _ _ (by omega)
    show ((kidsB ll b).flatMap (downN ll N)).length + 1 ≤ 11 ^ (N + 1)
    rw [Nat.pow_succ]
    omega
theorem flat_take {l : List Int} {J : Nat} {m : Int} (h : l[J]? = some m) (d : Int → List Int) : (l.take (J + 1)).flatMap d = (l.take J).flatMap d ++ d m := by
  rw [take_more h, List.flatMap_append]
  simp
/-- A list of one's own grows by another list. -/
theorem Grw.join {w wr w2 : World} {l m : List Int} {v v' : Value} (h : Grw w l v wr) (own : w2.ownsRow w.heap.size 3 1 v' (l.length + m.length) (ints l ++ ints m)) (hg : wr.grownBy w2 v.ownBlock) : Grw w (l ++ m) v' w2 := by
  refine ⟨by simpa [ints] using own, ?_⟩
  refine Below.grown h.2 hg h.2.size ?_
  intro k hk
  exact (h.1.lt k hk).1
theorem ints_one {l : List Int} : ∀ u ∈ ints l, u.oneCell' = true := by
  intro u hu
  obtain ⟨x, _, rfl⟩ := List.mem_map.1 hu
  rfl
theorem Grw.below {w wr w2 : World} {l : List Int} {v : Value} (h : Grw w l v wr) (b : Below wr.heap.size wr w2) : Grw w l v w2 := ⟨own_below b _ _ _ _ _ _ h.1, below_step h.2 b⟩
theorem Grw.lit (w : World) (b : Int) : Grw w [b] (.slice (some ⟨w.heap.size, 0, none⟩) 1 1) (w.alloc (.cells #[.int .i64 b] 3)) :=
  ⟨World.ownsRow_lit (size := 1) w #[.int .i64 b] 1 (Nat.le_refl _) (by unfold maxLen; omega) rfl, below_box w _⟩
set_option maxHeartbeats 4000000 in
set_option maxRecDepth 20000 in
theorem rdown_any (ll : List (List Int)) (hg : Gr ll) (hl : ll.length ≤ 10) : ∀ (N : Nat) (b : Int) (v : Value) (w : World), N ≤ 11 → TabL w ll v → ll.length + 1 ≤ depthB ll b + N →
    Calls Try.prog 20 #[v, .int .i64 b] w fun e w' => ∃ u, e = .returned u ∧ Grw w (downN ll N b) u w' := by
  obtain ⟨i0, hi0, hz0, hz1, hz2⟩ := info_parts Try.info3
  intro N
  induction N with
  | zero =>
    intro b v w _ _ h
    have := depth_max ll b
    omega
  | succ N ih =>
    intro b v w hN hv hd
    have IH := hide ih
    have HV := hide hv
    have HK := hide (fun w' (h : Below w.heap.size w w') => rkids_any ll b v w' (hv.below h) hg (by omega))
    have HDp := hide (fun m (hm : m ∈ kidsB ll b) => kid_deep hg hm)
    have HMx := hide (fun J => downs_max hl (downN_max hl N) b J)
    have HM1 := hide (fun m => downN_max hl N m)
    have hpw : 11 ^ N ≤ 11 ^ 10 := Nat.pow_le_pow_right (by omega) (by omega)
    have HPW := hide hpw
    obtain ⟨tb, to, tc, rfl, _, _⟩ := hv
    clear ih hpw
    go_enter Try.func20, Try.ntmps20
    go_upto_region 2 with fail
    show Code.wp _ _ _ _ (w.alloc (.cells #[.int .i64 b] 3))
    have HL := hide (Grw.lit w b)
    have hW : w.heap.size < (w.alloc (.cells #[.int .i64 b] 3)).heap.size := by simp
    generalize w.alloc (.cells #[.int .i64 b] 3) = W at *
    have HKW := hide (HK.out W HL.out.2)
    clear HK
    go_wp2_with fail
    refine HKW.out.mono ?_; rintro e w1 ⟨u, rfl, hu⟩
    have HG0 : Hid (Grw w (b :: ((kidsB ll b).take 0).flatMap (downN ll N)) _ w1) := hide (HL.out.below hu.2)
    have HB1 := hide (below_step HL.out.2 hu.2)
    have HKd := hide hu.1
    have hkl : (kidsB ll b).length ≤ ll.length := kidsTo_len _ _ _
    obtain ⟨ko, kc, rfl⟩ := own_len hu.1
    clear hu HKW HL
    have HAp : Hid (Apart (.slice ko (kidsB ll b).length kc) (.slice (some ⟨w.heap.size, 0, none⟩) 1 1)) := hide (by
      cases hb : (Value.slice ko (kidsB ll b).length kc).ownBlock with
      | none => exact .inl hb
      | some k =>
        right
        have := (HKd.out.lt k hb).1
        rw [hb]
        simp [Value.ownBlock]
        omega)
    have HDN : Hid (downN ll (N + 1) b = b :: (kidsB ll b).flatMap (downN ll N)) := hide rfl
    generalize kidsB ll b = ks at *
    go_wp2_with fail
    go_loopw [5, 7] (fun nv i wr => ∃ J : Nat, J ≤ ks.length ∧ i = .int .i64 J ∧ Hid (Grw w (b :: (ks.take J).flatMap (downN ll N)) nv wr) ∧ Hid (wr.ownsRow W.heap.size 3 1 (.slice ko ks.length kc) ks.length (ints ks)) ∧ Hid (Apart (.slice ko ks.length kc) nv)) (fun _ i _ => ks.length - (intOf i).toNat)
    case atStart => exact ⟨0, Nat.zero_le _, rfl, HG0, HKd, HAp⟩
    case round =>
      clear HG0 HKd HAp
      obtain ⟨J, hJ, rfl, HG, HKd, HAp⟩ := hrel
      by_cases hjt : J < ks.length
      · have hjI : (J : Int) < ks.length := by omega
        obtain ⟨m, hm⟩ : ∃ m, ks[J]? = some m := ⟨_, List.getElem?_eq_getElem hjt⟩
        obtain ⟨gq, rfl, c5, _⟩ := own_cell HKd.out hm
        have HFt := hide (flat_take hm (downN ll N))
        have HC := hide (IH.out m _ wr (by omega) (HV.out.below HG.out.2) (by have := HDp.out m (List.mem_of_getElem? hm); omega))
        have hmx := HMx.out J
        have hm1 := HM1.out m
        have hpw := HPW.out
        have hNz : 0 < (downN ll N m).length := by
          cases N with
          | zero => have := depth_max ll m; have := HDp.out m (List.mem_of_getElem? hm); omega
          | succ N => simp [downN]
        clear hm
        go_wp2_with fail
        refine HC.out.mono ?_; rintro e w2 ⟨u2, rfl, hu2⟩
        have HG2 := hide (HG.out.below hu2.2)
        have HK2 := hide (own_below hu2.2 _ _ _ _ _ _ HKd.out)
        rcases own_view hu2.1 with ⟨_, e⟩ | ⟨g2, cap2, rfl, n1, n2, n3, n4, n5, n6⟩
        · omega
        have HN5 : Hid (∀ j u, (ints (downN ll N m))[j]? = some u → w2.cell? ((⟨g2, 0, none⟩ : Addr).add j) = some u) := hide (fun j u hj => by
          have := n5 j u hj
          by_cases hj0 : j = 0
          · subst hj0; simpa [Addr.add] using this
          · simpa [Addr.add, hj0] using this)
        have hll : (b :: (ks.take J).flatMap (downN ll N)).length ≤ 11 ^ 11 := by
          rw [List.length_cons]
          have : (11 : Nat) ^ 11 = 11 ^ 10 * 11 := rfl
          omega
        have HLn := hide (show (b :: (ks.take J).flatMap (downN ll N)).length + (downN ll N m).length ≤ 11 ^ 11 + 11 ^ 10 by omega)
        have hWs := HG2.out.2.size
        obtain ⟨acc, hacc⟩ : ∃ acc, acc = b :: (ks.take J).flatMap (downN ll N) := ⟨_, rfl⟩
        obtain ⟨dn, hdn⟩ : ∃ dn, dn = downN ll N m := ⟨_, rfl⟩
        rw [← hacc] at HG2 HLn HG
        rw [← hdn] at HN5 HLn n1 hNz
        have HEq : Hid (b :: (ks.take (J + 1)).flatMap (downN ll N) = acc ++ dn) := hide (by rw [HFt.out, hacc, hdn]; rfl)
        rw [← hdn]
        clear hacc hdn hll n5 n6 hu2 HC HFt hmx hm1 hpw c5
        go_wp2_with (at_builtin; refine wpList_append_own_at _ rfl (.tmp 19) (.tmp 25) 22 rfl w.heap.size 3 i0 _ 1 8 Try.underlying22 hi0 hz0 hz1 hz2 rfl (by decide) _ _ _ rfl HG2.out.1 ⟨g2, 0, none⟩ dn.length cap2 (ints dn) rfl (by simp [ints]) HN5.out ints_one (by have := HLn.out; unfold maxLen; omega) (by have := HLn.out; omega) (by omega) ?_; intro v3 w3 own3 grow3 _ at3; refine Hid.out ?_)
        have HE : Hid (Grw w (b :: (ks.take (J + 1)).flatMap (downN ll N)) v3 w3) := hide (by rw [HEq.out]; exact HG2.out.join own3 grow3)
        have HK3 : Hid (w3.ownsRow W.heap.size 3 1 (.slice (some ⟨gq, 0, none⟩) ks.length kc) ks.length (ints ks)) := hide (HK2.out.kept grow3 HAp.out)
        have HA3 : Hid (Apart (.slice (some ⟨gq, 0, none⟩) ks.length kc) v3) := hide (by
          rcases at3 with e | e
          · rcases HAp.out with h | h
            · exact .inl h
            · right; rw [e]; exact h
          · right
            rw [e]
            have := (HK2.out.lt gq rfl).2
            simp [Value.ownBlock]
            omega)
        clear own3 grow3 at3
        refine hide ?_
        go_wp2_with fail
        go_roundw
        case rel => exact ⟨J + 1, by omega, by go_num, HE, HK3, HA3⟩
        case measure => simp [intOf]; omega
      · obtain rfl : J = ks.length := by omega
        have HE : Hid (Grw w (b :: ks.flatMap (downN ll N)) _ wr) := hide (by have := HG.out; rwa [List.take_length] at this)
        go_wp2_with fail
        go_ret
        exact ⟨_, rfl, by rw [HDN.out]; exact HE.out⟩
end Go.Proofs.Ytnlcpfijfjbgjaa
