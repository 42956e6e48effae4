/- Layer 9, mathematics: the order of a function's blocks holds just those that are reached; each behind one that goes to it. Layer 10, mathematics: loops; into a loop by its head alone; of two loops that share a block the one's head is within the other one. Layer 8, the reference: whether there is a way along edges. -/
import Derived.Test.YtmiplohoclckcaaGreatLtAH
import Derived.Test.YtmiplohoclckcaaGreatLtAN
namespace Go.Proofs.YtmiplohoclckcaaGreat
open Go Go.RowKit
open G (Tok Er Ins Fun)
/-- What is put behind a list: each of it follows a block, or one that stands behind it there. -/
def Par (f : Fun) (k : Int) (done out : List Int) : Prop := ∃ e, out = done ++ e ∧ ∀ y ∈ e, y ∈ nextF f k.toNat ∨ ∃ x a b, e = a ++ b ∧ y ∈ a ∧ x ∈ b ∧ y ∈ nextF f x.toNat
theorem Par.refl (f : Fun) (k : Int) (done : List Int) : Par f k done done := ⟨[], by simp, by simp⟩
theorem Par.trans {f : Fun} {k : Int} {a b c : List Int} (h : Par f k a b) (j : Par f k b c) : Par f k a c := by
  obtain ⟨e, rfl, h1⟩ := h
  obtain ⟨d, rfl, j1⟩ := j
  refine ⟨e ++ d, by simp, fun y hy => ?_⟩
  rcases List.mem_append.1 hy with hy | hy
  · rcases h1 y hy with q | ⟨x, a1, b1, rfl, q2, q3, q4⟩
    · exact .inl q
    · exact .inr ⟨x, a1, b1 ++ d, by simp, q2, by simp [q3], q4⟩
  · rcases j1 y hy with q | ⟨x, a1, b1, rfl, q2, q3, q4⟩
    · exact .inl q
    · exact .inr ⟨x, e ++ a1, b1, by simp, by simp [q2], q3, q4⟩
theorem walk_par {f : Fun} {N : Nat} {path : List Int} {k : Int} (hs : ∀ m out, m ∈ nextF f k.toNat → Par f k out (postF f N m out path)) :
    ∀ (l out : List Int), (∀ m ∈ l, m ∈ nextF f k.toNat) → Par f k out (walkF f N path out l) := by
  intro l
  induction l with
  | nil => intro out _; exact Par.refl _ _ _
  | cons m l ih =>
    intro out hl
    have e : walkF f N path out (m :: l) = walkF f N path (stepF f N path out m) l := rfl
    rw [e]
    refine Par.trans ?_ (ih _ (fun x hx => hl x (by simp [hx])))
    by_cases hc : hasL out m = true ∨ hasL path m = true
    · rw [stepF_no hc]; exact Par.refl _ _ _
    · have hc1 : hasL out m = false := by simpa using fun e => hc (.inl e)
      have hc2 : hasL path m = false := by simpa using fun e => hc (.inr e)
      rw [stepF_yes hc1 hc2]
      exact hs m out (hl m (by simp))
theorem post_par {f : Fun} : ∀ (N : Nat) (k : Int) (done op : List Int), ∃ out, Par f k done out ∧ (postF f N k done op = out ++ [k] ∨ postF f N k done op = done) := by
  intro N
  induction N with
  | zero => intro k done op; exact ⟨done, Par.refl _ _ _, .inr rfl⟩
  | succ N ih =>
    intro k done op
    refine ⟨walkF f N (op ++ [k]) done (nextF f k.toNat), ?_, .inl (postF_succ f N k done op)⟩
    refine walk_par (fun m out hm => ?_) _ _ (fun m hm => hm)
    obtain ⟨o, h1, h2⟩ := ih m out (op ++ [k])
    rcases h2 with e | e
    · rw [e]
      obtain ⟨d, rfl, h3⟩ := h1
      refine ⟨d ++ [m], by simp, fun y hy => ?_⟩
      rcases List.mem_append.1 hy with hy | hy
      · rcases h3 y hy with q | ⟨x, a1, b1, rfl, q2, q3, q4⟩
        · exact .inr ⟨m, d, [m], rfl, hy, by simp, q⟩
        · exact .inr ⟨x, a1, b1 ++ [m], by simp, q2, by simp [q3], q4⟩
      · simp at hy
        subst hy
        exact .inl hm
    · rw [e]; exact Par.refl _ _ _
/-- All that stands there is reached. -/
theorem post_all {f : Fun} {Q : Int → Prop} (hQ : ∀ x m, Q x → m ∈ nextF f x.toNat → Q m) : ∀ (N : Nat) (k : Int) (done op : List Int), Q k → (∀ x ∈ done, Q x) → ∀ x ∈ postF f N k done op, Q x := by
  intro N
  induction N with
  | zero => intro k done op _ h; exact h
  | succ N ih =>
    intro k done op hk hd x hx
    rw [postF_succ] at hx
    have key : ∀ (l out : List Int), (∀ m ∈ l, Q m) → (∀ m ∈ out, Q m) → ∀ m ∈ walkF f N (op ++ [k]) out l, Q m := by
      intro l
      induction l with
      | nil => intro out _ h; exact h
      | cons m l ih2 =>
        intro out hl ho
        refine ih2 _ (fun x hx => hl x (by simp [hx])) ?_
        unfold stepF
        split
        · exact ho
        · exact ih m out _ (hl m (by simp)) ho
    rcases List.mem_append.1 hx with hx | hx
    · exact key _ _ (fun m hm => hQ k m hk hm) hd x hx
    · simp at hx; subst hx; exact hk
/-- Who follows one of those that were put there stands there too, or is on the path. -/
theorem post_closed {f : Fun} (hT : Tos f) : ∀ (N : Nat) (k : Int) (done op : List Int), (op ++ [k]).Nodup → Num f.2.2.2.1.length (op ++ [k]) → N + op.length = f.2.2.2.1.length →
    k ∈ postF f N k done op ∧ (∀ x ∈ done, x ∈ postF f N k done op) ∧ ∀ x ∈ postF f N k done op, x ∉ done → ∀ y ∈ nextF f x.toNat, y ∈ postF f N k done op ∨ y ∈ op := by
  intro N
  induction N with
  | zero =>
    intro k done op h1 h2 h3
    have := fit_len _ _ h1 h2
    simp at this
    omega
  | succ N ih =>
    intro k done op h1 h2 h3
    have key : ∀ (l out : List Int), Num f.2.2.2.1.length l → (∀ x ∈ done, x ∈ out) → (∀ x ∈ out, x ∉ done → ∀ y ∈ nextF f x.toNat, y ∈ out ∨ y ∈ op ++ [k]) →
        (∀ m ∈ l, m ∈ walkF f N (op ++ [k]) out l ∨ m ∈ op ++ [k]) ∧ (∀ x ∈ out, x ∈ walkF f N (op ++ [k]) out l) ∧ (∀ x ∈ walkF f N (op ++ [k]) out l, x ∉ done → ∀ y ∈ nextF f x.toNat, y ∈ walkF f N (op ++ [k]) out l ∨ y ∈ op ++ [k]) := by
      intro l
      induction l with
      | nil => intro out _ _ h; exact ⟨by simp, fun x hx => hx, h⟩
      | cons m l ih2 =>
        intro out hl hd hc
        have e : walkF f N (op ++ [k]) out (m :: l) = walkF f N (op ++ [k]) (stepF f N (op ++ [k]) out m) l := rfl
        rw [e]
        by_cases hm : hasL out m = true ∨ hasL (op ++ [k]) m = true
        · rw [stepF_no hm]
          obtain ⟨k1, k2, k3⟩ := ih2 out (fun x hx => hl x (by simp [hx])) hd hc
          refine ⟨fun x hx => ?_, k2, k3⟩
          rcases List.mem_cons.1 hx with rfl | hx
          · rcases hm with hm | hm
            · exact .inl (k2 _ (hasL_mem.1 hm))
            · exact .inr (hasL_mem.1 hm)
          · exact k1 x hx
        · have hc1 : hasL out m = false := by simpa using fun e => hm (.inl e)
          have hc2 : hasL (op ++ [k]) m = false := by simpa using fun e => hm (.inr e)
          rw [stepF_yes hc1 hc2]
          have hnd : (op ++ [k] ++ [m]).Nodup := List.nodup_append.2 ⟨h1, by simp, by rintro x hx y hy rfl; simp at hy; subst hy; exact hasL_no.1 hc2 hx⟩
          have hnu : Num f.2.2.2.1.length (op ++ [k] ++ [m]) := by
            intro x hx
            rcases List.mem_append.1 hx with hx | hx
            · exact h2 x hx
            · simp at hx; subst hx; exact hl x (by simp)
          obtain ⟨j1, j2, j3⟩ := ih m out (op ++ [k]) hnd hnu (by simp; omega)
          obtain ⟨k1, k2, k3⟩ := ih2 (postF f N m out (op ++ [k])) (fun x hx => hl x (by simp [hx])) (fun x hx => j2 x (hd x hx)) (by
            intro x hx hxd y hy
            by_cases hxo : x ∈ out
            · rcases hc x hxo hxd y hy with q | q
              · exact .inl (j2 y q)
              · exact .inr q
            · exact j3 x hx hxo y hy)
          refine ⟨fun x hx => ?_, fun x hx => k2 x (j2 x hx), k3⟩
          rcases List.mem_cons.1 hx with rfl | hx
          · exact .inl (k2 _ j1)
          · exact k1 x hx
    obtain ⟨k1, k2, k3⟩ := key (nextF f k.toNat) done (hT _) (fun x hx => hx) (fun x hx hn => absurd hx hn)
    rw [postF_succ]
    refine ⟨by simp, fun x hx => by simp [k2 x hx], fun x hx hxd y hy => ?_⟩
    have fin : y ∈ walkF f N (op ++ [k]) done (nextF f k.toNat) ∨ y ∈ op ++ [k] → y ∈ walkF f N (op ++ [k]) done (nextF f k.toNat) ++ [k] ∨ y ∈ op := by
      rintro (q | q)
      · exact .inl (by simp [q])
      · rcases List.mem_append.1 q with q | q
        · exact .inr q
        · exact .inl (by simp at q; simp [q])
    rcases List.mem_append.1 hx with hx | hx
    · exact fin (k3 x hx hxd y hy)
    · simp at hx
      subst hx
      exact fin (k1 y hy)
theorem next_getD {f : Fun} {b : Int} (h : b.toNat < f.2.2.2.1.length) : (succsF f).getD b.toNat [] = nextF f b.toNat := by
  rw [List.getD_eq_getElem?_getD, succsF_at h]; rfl
theorem gr_succs {f : Fun} (hT : Tos f) (h0 : 0 < f.2.2.2.1.length) : Gr (succsF f) := by
  refine ⟨fun l hl => ?_, by rw [succsF_len]; exact h0⟩
  obtain ⟨K, hK, rfl⟩ := List.mem_iff_getElem.1 hl
  have hK2 : K < f.2.2.2.1.length := by rw [← succsF_len]; exact hK
  have e := succsF_at hK2
  rw [List.getElem?_eq_getElem hK] at e
  injection e with e
  rw [e, succsF_len]
  exact hT K
theorem all_next {f : Fun} (hT : Tos f) (h0 : 0 < f.2.2.2.1.length) {x m : Int} (h : All (succsF f) x) (hm : m ∈ nextF f x.toNat) : All (succsF f) m := by
  have hx := h.num (gr_succs hT h0)
  rw [succsF_len] at hx
  refine h.step (by rw [next_getD (by omega)]; exact hm) ?_
  have := hT _ m hm
  omega
theorem mem_order {f : Fun} (hT : Tos f) (h0 : 0 < f.2.2.2.1.length) (m : Int) : m ∈ orderF f ↔ All (succsF f) m := by
  unfold orderF
  rw [List.mem_reverse]
  constructor
  · exact post_all (f := f) (Q := All (succsF f)) (fun x m hx hm => all_next hT h0 hx hm) _ 0 [] [] (All.first _) (by simp) m
  · obtain ⟨h1, _, h3⟩ := post_closed hT f.2.2.2.1.length 0 [] [] (by simp) (fun m hm => by simp at hm; subst hm; omega) (by simp)
    refine Rch.rec' (fun x hx _ => ?_) (fun b c hb hm hc _ => ?_) m
    · simp at hx; subst hx; exact h1
    · have hx := All.num (gr_succs hT h0) hb
      rw [succsF_len] at hx
      rw [next_getD (by omega)] at hc
      rcases h3 b hm (by simp) c hc with q | q
      · exact q
      · simp at q
/-- Where a block stands is where the order has it. -/
theorem at_order {f : Fun} (hT : Tos f) (h0 : 0 < f.2.2.2.1.length) {i : Nat} {b : Int} (h : (orderF f)[i]? = some b) : atF f b = i :=
  (placeL_yes (take_fresh (order_num hT h0).1 h) h).symm
theorem at_all {f : Fun} (hT : Tos f) (h0 : 0 < f.2.2.2.1.length) (b : Int) : All (succsF f) b ↔ 0 ≤ atF f b := by
  rw [← mem_order hT h0]
  constructor
  · intro h
    obtain ⟨i, hi, rfl⟩ := List.mem_iff_getElem.1 h
    rw [at_order hT h0 (List.getElem?_eq_getElem hi)]
    omega
  · intro h
    refine Classical.byContradiction fun e => ?_
    have := placeL_no (l := orderF f) (hasL_no.2 e)
    unfold atF at h
    omega
/-- An order of the blocks that are reached: the first one first, each other one behind one that goes to it. -/
def Ord (ll : List (List Int)) (pl : Int → Int) : Prop := (∀ b, All ll b ↔ 0 ≤ pl b) ∧ (∀ a b, All ll a → All ll b → pl a = pl b → a = b) ∧ pl 0 = 0 ∧
  ∀ b, All ll b → b ≠ 0 → ∃ p, All ll p ∧ b ∈ ll.getD p.toNat [] ∧ pl p < pl b
theorem ord_of {f : Fun} (hT : Tos f) (h0 : 0 < f.2.2.2.1.length) : Ord (succsF f) (atF f) := by
  have idx : ∀ b, All (succsF f) b → ∃ i : Nat, (orderF f)[i]? = some b ∧ atF f b = i := by
    intro b hb
    obtain ⟨i, hi, e⟩ := List.mem_iff_getElem.1 ((mem_order hT h0 b).2 hb)
    have h : (orderF f)[i]? = some b := by rw [List.getElem?_eq_getElem hi, e]
    exact ⟨i, h, at_order hT h0 h⟩
  obtain ⟨out, hp, he⟩ := post_par (f := f) f.2.2.2.1.length 0 [] []
  have he1 : postF f f.2.2.2.1.length 0 [] [] = out ++ [0] := by
    rcases he with e | e
    · exact e
    · have := (post_closed hT f.2.2.2.1.length 0 [] [] (by simp) (fun m hm => by simp at hm; subst hm; omega) (by simp)).1
      rw [e] at this
      simp at this
  have hord : orderF f = 0 :: out.reverse := by unfold orderF; rw [he1]; simp
  have hz : atF f 0 = 0 := at_order hT h0 (i := 0) (by rw [hord]; rfl)
  refine ⟨at_all hT h0, fun a b ha hb e => ?_, hz, fun b hb hne => ?_⟩
  · obtain ⟨i, h1, h2⟩ := idx a ha
    obtain ⟨j, k1, k2⟩ := idx b hb
    have : i = j := by omega
    subst this
    rw [h1] at k1
    injection k1
  · obtain ⟨e, hee, hpar⟩ := hp
    have hee2 : e = out := by simpa using hee.symm
    subst hee2
    have hbe : b ∈ e := by
      have := (mem_order hT h0 b).2 hb
      rw [hord] at this
      rcases List.mem_cons.1 this with q | q
      · exact absurd q hne
      · simpa using q
    have back : ∀ (x y : Int) (a c : List Int), e ++ [0] = a ++ c → y ∈ a → x ∈ c → y ∈ nextF f x.toNat → ∃ p, All (succsF f) p ∧ y ∈ (succsF f).getD p.toNat [] ∧ atF f p < atF f y := by
      intro x y a c hac hy hx hyx
      have ho : orderF f = c.reverse ++ a.reverse := by
        have : orderF f = (e ++ [0]).reverse := by rw [hord]; simp
        rw [this, hac]; simp
      have hxo : x ∈ orderF f := by rw [ho]; simp [hx]
      have hxa := (mem_order hT h0 x).1 hxo
      have hn := hxa.num (gr_succs hT h0)
      rw [succsF_len] at hn
      refine ⟨x, hxa, by rw [next_getD (by omega)]; exact hyx, ?_⟩
      obtain ⟨i, hi, ei⟩ := List.mem_iff_getElem.1 (List.mem_reverse.2 hx)
      obtain ⟨j, hj, ej⟩ := List.mem_iff_getElem.1 (List.mem_reverse.2 hy)
      have q1 : (orderF f)[i]? = some x := by rw [ho, List.getElem?_append_left hi, List.getElem?_eq_getElem hi, ei]
      have q2 : (orderF f)[c.reverse.length + j]? = some y := by
        rw [ho, List.getElem?_append_right (by omega), Nat.add_sub_cancel_left, List.getElem?_eq_getElem hj, ej]
      rw [at_order hT h0 q1, at_order hT h0 q2]
      omega
    rcases hpar b hbe with q | ⟨x, a, c, hac, q2, q3, q4⟩
    · exact back 0 b e [0] rfl hbe (by simp) q
    · exact back x b a (c ++ [0]) (by rw [hac]; simp) q2 (by simp [q3]) q4
end Go.Proofs.YtmiplohoclckcaaGreat
namespace Go.Proofs.YtmiplohoclckcaaGreat
open Go Go.RowKit
open G (Tok Er Ins Fun)
/-- A loop: its head, its blocks, the blocks that go back, the loop that it is within. -/
abbrev Lp := Int × List Int × List Int × Int
/-- The blocks, below a number, that go to one that stands ahead of them. -/
def backsK (f : Fun) (h : Int) (K : Nat) : List Int := ((List.range K).filter fun (k : Nat) => hasL (nextF f k) h && aheadB (succsF f) h k).map Int.ofNat
def backsOf (f : Fun) (h : Int) : List Int := backsK f h f.2.2.2.1.length
theorem backsK_yes {f : Fun} {h : Int} {K : Nat} (h1 : hasL (nextF f K) h = true) (h2 : aheadB (succsF f) h K = true) : backsK f h (K + 1) = backsK f h K ++ [(K : Int)] := by
  unfold backsK; rw [List.range_succ, List.filter_append, List.map_append]; simp [h1, h2]
theorem backsK_no {f : Fun} {h : Int} {K : Nat} (h1 : (hasL (nextF f K) h && aheadB (succsF f) h K) = false) : backsK f h (K + 1) = backsK f h K := by
  unfold backsK; rw [List.range_succ, List.filter_append, List.map_append]; simp [h1]
theorem backsK_len (f : Fun) (h : Int) (K : Nat) : (backsK f h K).length ≤ K := by
  unfold backsK; rw [List.length_map]
  exact Nat.le_trans (List.length_filter_le _ _) (by simp)
theorem mem_backs {f : Fun} {h b : Int} (hb : b ∈ backsOf f h) : 0 ≤ b ∧ b < f.2.2.2.1.length ∧ h ∈ nextF f b.toNat ∧ aheadB (succsF f) h b = true := by
  unfold backsOf backsK at hb
  obtain ⟨a, ha, rfl⟩ := List.mem_map.1 hb
  obtain ⟨h1, h2⟩ := List.mem_filter.1 ha
  simp only [Bool.and_eq_true] at h2
  have e : (Int.ofNat a).toNat = a := rfl
  exact ⟨by simp, by simpa using h1, by rw [e]; exact hasL_mem.1 h2.1, h2.2⟩
/-- Is a block a loop's: is it the head, or is there a way to one that goes back, not by way of the head? -/
def inL (ll : List (List Int)) (h : Int) (frm : List Int) (k : Int) : Bool := decide (k = h) || frm.any fun b => hasL (metE ll [k] h) b
theorem inL_iff {ll : List (List Int)} (hg : Gr ll) {h k : Int} {frm : List Int} (hk : 0 ≤ k ∧ k < ll.length) : inL ll h frm k = true ↔ (k = h ∨ ∃ b ∈ frm, Rch ll [k] h b) := by
  unfold inL
  have hn : Num ll.length [k] := fun m hm => by simp at hm; subst hm; exact hk
  simp only [Bool.or_eq_true, decide_eq_true_eq, List.any_eq_true, hasL_mem, metE_iff hg.1 hn]
def blocksK (f : Fun) (h : Int) (K : Nat) : List Int := ((List.range K).filter fun (k : Nat) => inL (succsF f) h (backsOf f h) k).map Int.ofNat
def blocksOf (f : Fun) (h : Int) : List Int := blocksK f h f.2.2.2.1.length
theorem blocksK_yes {f : Fun} {h : Int} {K : Nat} (h1 : inL (succsF f) h (backsOf f h) K = true) : blocksK f h (K + 1) = blocksK f h K ++ [(K : Int)] := by
  unfold blocksK; rw [List.range_succ, List.filter_append, List.map_append]; simp [h1]
theorem blocksK_no {f : Fun} {h : Int} {K : Nat} (h1 : inL (succsF f) h (backsOf f h) K = false) : blocksK f h (K + 1) = blocksK f h K := by
  unfold blocksK; rw [List.range_succ, List.filter_append, List.map_append]; simp [h1]
theorem blocksK_len (f : Fun) (h : Int) (K : Nat) : (blocksK f h K).length ≤ K := by
  unfold blocksK; rw [List.length_map]
  exact Nat.le_trans (List.length_filter_le _ _) (by simp)
/-- The loops of the heads below a number, not yet told which is within which. -/
def loopK (f : Fun) (K : Nat) : List Lp := ((List.range K).filter fun (h : Nat) => decide (backsOf f h ≠ [])).map fun (h : Nat) => ((h : Int), blocksOf f h, backsOf f h, -1)
def rawL (f : Fun) : List Lp := loopK f f.2.2.2.1.length
theorem loopK_yes {f : Fun} {K : Nat} (h : backsOf f K ≠ []) : loopK f (K + 1) = loopK f K ++ [((K : Int), blocksOf f K, backsOf f K, -1)] := by
  unfold loopK; rw [List.range_succ, List.filter_append, List.map_append]; simp [h]
theorem loopK_no {f : Fun} {K : Nat} (h : backsOf f K = []) : loopK f (K + 1) = loopK f K := by
  unfold loopK; rw [List.range_succ, List.filter_append, List.map_append]; simp [h]
theorem loopK_len (f : Fun) (K : Nat) : (loopK f K).length ≤ K := by
  unfold loopK; rw [List.length_map]
  exact Nat.le_trans (List.length_filter_le _ _) (by simp)
def lp0 : Lp := (0, [], [], 0)
def lpN (l : List Lp) (k : Nat) : Lp := l.getD k lp0
theorem lpN_at {l : List Lp} {k : Nat} (h : k < l.length) : l[k]? = some (lpN l k) := by
  unfold lpN; rw [List.getD_eq_getElem?_getD, List.getElem?_eq_getElem h]; rfl
def nB (l : List Lp) (k : Nat) : Nat := (lpN l k).2.1.length
/-- May a loop be the one that another one is within? -/
def okB (l : List Lp) (i k : Nat) : Bool := decide (k ≠ i) && hasL (lpN l k).2.1 (lpN l i).1 && decide (nB l i < nB l k)
def bestK (l : List Lp) (i : Nat) : Nat → Int
  | 0 => -1
  | K + 1 => if okB l i K && (decide (bestK l i K < 0) || decide (nB l K < nB l (bestK l i K).toNat)) then (K : Int) else bestK l i K
theorem bestK_low (l : List Lp) (i : Nat) : ∀ K, -1 ≤ bestK l i K ∧ bestK l i K < K := by
  intro K
  induction K with
  | zero => simp [bestK]
  | succ K ih =>
    rw [bestK]
    split
    · omega
    · omega
def upsK (l : List Lp) (K : Nat) : List Lp := (List.range K).map fun i => ((lpN l i).1, (lpN l i).2.1, (lpN l i).2.2.1, bestK l i l.length)
theorem upsK_succ (l : List Lp) (K : Nat) : upsK l (K + 1) = upsK l K ++ [((lpN l K).1, (lpN l K).2.1, (lpN l K).2.2.1, bestK l K l.length)] := by
  unfold upsK; rw [List.range_succ, List.map_append]; rfl
theorem upsK_len (l : List Lp) (K : Nat) : (upsK l K).length = K := by simp [upsK]
/-- The loops of a function. -/
def loopsF (f : Fun) : List Lp := upsK (rawL f) (rawL f).length
theorem loopsF_len (f : Fun) : (loopsF f).length ≤ f.2.2.2.1.length := by
  unfold loopsF; rw [upsK_len]; exact loopK_len _ _
theorem mem_raw {f : Fun} {x : Lp} (h : x ∈ rawL f) : ∃ k : Nat, k < f.2.2.2.1.length ∧ x.1 = k ∧ x.2.1 = blocksOf f k ∧ x.2.2.1 = backsOf f k ∧ backsOf f k ≠ [] := by
  unfold rawL loopK at h
  obtain ⟨a, ha, rfl⟩ := List.mem_map.1 h
  obtain ⟨h1, h2⟩ := List.mem_filter.1 ha
  exact ⟨a, by simpa using h1, rfl, rfl, rfl, by simpa using h2⟩
theorem mem_loops {f : Fun} {x : Lp} (h : x ∈ loopsF f) : ∃ k : Nat, k < f.2.2.2.1.length ∧ x.1 = k ∧ x.2.1 = blocksOf f k ∧ x.2.2.1 = backsOf f k ∧ backsOf f k ≠ [] := by
  unfold loopsF upsK at h
  obtain ⟨i, hi, rfl⟩ := List.mem_map.1 h
  have hi2 : i < (rawL f).length := by simpa using hi
  have h2 := mem_raw (x := lpN (rawL f) i) (List.mem_of_getElem? (lpN_at hi2))
  exact h2
theorem Rch.join {ll : List (List Int)} {a k z b : Int} (h : Rch ll [a] z k) (hk : Rch ll [k] z b) : Rch ll [a] z b := by
  refine Rch.rec' (Q := fun m => Rch ll [a] z m) (fun m hm _ => ?_) (fun x c _ hx hc hz => hx.step hc hz) b hk
  simp at hm
  subst hm
  exact h
/-- In how many of the first so many loops a block is. -/
def depthL (l : List Lp) (k : Int) (K : Nat) : Nat := cntB (fun i => hasL (lpN l i).2.1 k) K
/-- The blocks without a loop, below a number, that go to its head. -/
def entersK (f : Fun) (x : Lp) (K : Nat) : List Int := ((List.range K).filter fun (k : Nat) => !hasL x.2.1 k && hasL (nextF f k) x.1).map Int.ofNat
theorem entersK_yes {f : Fun} {x : Lp} {K : Nat} (h1 : (!hasL x.2.1 K && hasL (nextF f K) x.1) = true) : entersK f x (K + 1) = entersK f x K ++ [(K : Int)] := by
  unfold entersK; rw [List.range_succ, List.filter_append, List.map_append]; simp at h1; simp [h1]
theorem entersK_no {f : Fun} {x : Lp} {K : Nat} (h1 : (!hasL x.2.1 K && hasL (nextF f K) x.1) = false) : entersK f x (K + 1) = entersK f x K := by
  unfold entersK; rw [List.range_succ, List.filter_append, List.map_append]; simpa using h1
def entryF (f : Fun) (x : Lp) : Int := match entersK f x f.2.2.2.1.length with
  | [k] => if (nextF f k.toNat).length = 1 then k else -1
  | _ => -1
/-- The numbers of the first so many loops, those with fewer blocks ahead. -/
def innerK (l : List Lp) : Nat → List Int
  | 0 => []
  | K + 1 => (innerK l K).takeWhile (fun j => decide (nB l j.toNat ≤ nB l K)) ++ [(K : Int)] ++ (innerK l K).drop ((innerK l K).takeWhile (fun j => decide (nB l j.toNat ≤ nB l K))).length
def innerF (l : List Lp) : List Int := innerK l l.length
end Go.Proofs.YtmiplohoclckcaaGreat
namespace Go.Proofs.YtmiplohoclckcaaGreat
open Go Go.RowKit
open G (Tok Er Ins Fun)
set_option maxHeartbeats 4000000 in
set_option maxRecDepth 20000 in
theorem rpath_any (ll : List (List Int)) (frm : List Int) (to but : Int) (eo fo : Option Addr) (ec fc : Nat) (w : World) (he : RowsR w eo ll) (hf : Sl w fo frm) (hel : ll.length ≤ 1000000) (hfl : frm.length ≤ 1000000) (hfn : Num ll.length frm) (hen : ∀ l ∈ ll, Num ll.length l) (hell : ∀ l ∈ ll, l.length ≤ 1000000) :
    Calls Tryz.prog 68 #[.slice eo ll.length ec, .slice fo frm.length fc, .int .i64 to, .int .i64 but] w fun e w' => e = .returned (.bool (hasL (metE ll frm but) to)) ∧ Below w.heap.size w w' := by
  obtain ⟨i0, hi0, hz0, hz1, hz2⟩ := info_parts Tryz.info3
  have HEd := hide he
  have HFr := hide hf
  have HFn := hide hfn
  have HEn := hide hen
  have HEl := hide hell
  clear he hf hfn hen hell
  go_enter Tryz.func68, Tryz.ntmps68
  go_wp2_with fail
  go_loopw [9, 10] (fun v i wr => ∃ I : Nat, I ≤ frm.length ∧ i = .int .i64 I ∧ Hid (Grw w (addsB but [] (frm.take I)) v wr)) (fun _ i _ => frm.length - (intOf i).toNat)
  case atStart => exact ⟨0, Nat.zero_le _, rfl, hide (Grw.start _)⟩
  case round =>
    obtain ⟨I, hI, rfl, HG⟩ := hrel
    by_cases hit : I < frm.length
    · obtain ⟨m, hm⟩ : ∃ m, frm[I]? = some m := ⟨frm[I], List.getElem?_eq_getElem hit⟩
      have hiI : (I : Int) < frm.length := by omega
      have HTk := hide (addsB_take (but := but) (met := []) hm)
      have HNm : Hid (NumD ll.length (addsB but [] (frm.take I))) := hide (NumD.addsB but _ _ (NumD.nil _) (HFn.out.take I))
      rcases HFr.out with e0 | ⟨fb, fo2, rfl, f1, f2⟩
      · subst e0; simp at hit
      have c1 := (HG.out.2.cell (p := ⟨fb, fo2 + I, none⟩) f1).trans (f2 I m hm)
      generalize addsB but [] (frm.take I) = met at *
      have hml : met.length ≤ ll.length := fit_len _ _ HNm.out.1 HNm.out.2
      obtain ⟨mo, mc, rfl, s1, s2⟩ := HG.out.slice
      have HH := hide (rhas_any met m mo mc wr s1 s2)
      have hWs := HG.out.2.size
      clear f2 s1 s2 hm
      by_cases hmb : m = but
      · have HE : Hid (Grw w (addsB but [] (frm.take (I + 1))) _ wr) := hide (by rw [HTk.out, addB_but hmb]; exact HG.out)
        have hmn : (m != but) = false := by simpa using hmb
        go_wp2_with fail
        go_roundw
        case rel => exact ⟨I + 1, by omega, by go_num, HE⟩
        case measure => simp [intOf]; omega
      · have hmn : (m != but) = true := by simpa using hmb
        go_wp2_with fail
        refine HH.out.mono ?_; rintro e w8 ⟨rfl, rfl⟩
        cases hh : hasL met m with
        | true =>
          have HE : Hid (Grw w (addsB but [] (frm.take (I + 1))) _ w8) := hide (by rw [HTk.out, addB_has hmb hh]; exact HG.out)
          replace hh := hide hh
          go_wp2_with fail
          go_roundw
          case rel => exact ⟨I + 1, by omega, by go_num, HE⟩
          case measure => simp [intOf]; omega
        | false =>
          have HA := hide (HTk.out.trans (addB_new hmb hh))
          replace hh := hide hh
          go_wp2_with (at_builtin; refine wpList_append_own _ rfl (.tmp 35) (.tmp 40) 22 rfl w.heap.size 3 i0 _ 1 8 Tryz.underlying22 hi0 hz0 hz1 hz2 rfl (by decide) _ _ _ rfl (HG.out.1.alloc _) ⟨w8.heap.size, 0, none⟩ 1 1 [.int .i64 m] rfl rfl one_cell one_one (by unfold maxLen; omega) (by omega) (by simp; omega) ?_; intro v2 w2 own2 grow2 _; refine Hid.out ?_)
          have HE : Hid (Grw w (addsB but [] (frm.take (I + 1))) v2 w2) := hide (by rw [HA.out]; exact HG.out.step own2 grow2)
          clear own2 grow2
          refine hide ?_
          go_wp2_with fail
          go_roundw
          case rel => exact ⟨I + 1, by omega, by go_num, HE⟩
          case measure => simp [intOf]; omega
    · obtain rfl : I = frm.length := by omega
      have HG0 : Hid (Grw w (addsB but [] frm) _ wr) := hide (by have := HG.out; rwa [List.take_length] at this)
      clear HG
      have HN0 : Hid (NumD ll.length (addsB but [] frm)) := hide (NumD.addsB but _ _ (NumD.nil _) HFn.out)
      have HM : Hid (growE ll but (ll.length + 1 - 0) 0 (addsB but [] frm) = metE ll frm but) := hide rfl
      go_wp2_with fail
      go_loopw [9, 11] (fun v i wr => ∃ (I : Nat) (met : List Int), I ≤ met.length ∧ i = .int .i64 I ∧ Hid (Grw w met v wr) ∧ Hid (NumD ll.length met) ∧ Hid (growE ll but (ll.length + 1 - I) I met = metE ll frm but)) (fun _ i _ => ll.length + 1 - (intOf i).toNat)
      case atStart => exact ⟨0, _, Nat.zero_le _, rfl, HG0, HN0, HM⟩
      case round =>
        clear HG0 HN0 HM HFr HFn
        obtain ⟨I, met, hI, rfl, HG, HN, HM⟩ := hrel
        have hml : met.length ≤ ll.length := fit_len _ _ HN.out.1 HN.out.2
        obtain ⟨mo, mc, rfl, s1, s2⟩ := HG.out.slice
        by_cases hit : I < met.length
        · have hiI : (I : Int) < met.length := by omega
          obtain ⟨m, hm⟩ : ∃ m, met[I]? = some m := ⟨met[I], List.getElem?_eq_getElem hit⟩
          obtain ⟨hm0, hm1⟩ := HN.out.2 m (List.mem_of_getElem? hm)
          obtain ⟨M, rfl⟩ : ∃ M : Nat, m = (M : Int) := ⟨m.toNat, by omega⟩
          have hMl : M < ll.length := by omega
          obtain ⟨l, hl⟩ : ∃ l, ll[M]? = some l := ⟨ll[M], List.getElem?_eq_getElem hMl⟩
          have HMs : Hid (growE ll but (ll.length + 1 - (I + 1)) (I + 1) (addsB but met l) = metE ll frm but) := hide (by
            have e := HM.out
            rw [show ll.length + 1 - I = (ll.length + 1 - (I + 1)) + 1 by omega, growE_step hm] at e
            rw [← e, Int.toNat_natCast, List.getD_eq_getElem?_getD, hl]; rfl)
          have HLn := hide (HEn.out l (List.mem_of_getElem? hl))
          have hll := HEl.out l (List.mem_of_getElem? hl)
          rcases s1 with e0 | ⟨mb, mo2, rfl, g1, g2⟩
          · subst e0; simp at hit
          have c1 := g2 I _ hm
          rcases HEd.out with e0 | ⟨eb, eo2, rfl, d1, d2⟩
          · subst e0; simp at hMl
          obtain ⟨_, k1, ⟨lo, lc, rfl, k2, k3, k4⟩⟩ := d2 M l hl
          have c2 := (HG.out.2.cell (p := ⟨eb, eo2 + M, none⟩) d1).trans k1
          have HSl := hide (k2.below HG.out.2)
          have hlw : Hid (Sl w lo l) := hide k2
          clear g2 d2 k1 k2 hm hl s2
          go_wp2_with fail
          clear c1 c2
          generalize wr = W2 at *
          have HG0 : Hid (Grw w (addsB but met (l.take 0)) _ W2) := HG
          go_loopw [9, 13] (fun v i wq => ∃ K : Nat, K ≤ l.length ∧ i = .int .i64 K ∧ Hid (Grw w (addsB but met (l.take K)) v wq)) (fun _ i _ => l.length - (intOf i).toNat)
          case atStart => exact ⟨0, Nat.zero_le _, rfl, HG0⟩
          case round =>
            clear HG0 HG
            obtain ⟨K, hK, rfl, HG⟩ := hrel
            by_cases hkt : K < l.length
            · obtain ⟨n, hn⟩ : ∃ n, l[K]? = some n := ⟨l[K], List.getElem?_eq_getElem hkt⟩
              have hkI : (K : Int) < l.length := by omega
              have HTk := hide (addsB_take (but := but) (met := met) hn)
              have HNm : Hid (NumD ll.length (addsB but met (l.take K))) := hide (NumD.addsB but _ _ HN.out (HLn.out.take K))
              rcases hlw.out with e0 | ⟨fb, fo2, rfl, f1, f2⟩
              · subst e0; simp at hkt
              have c1 := (HG.out.2.cell (p := ⟨fb, fo2 + K, none⟩) f1).trans (f2 K n hn)
              generalize addsB but met (l.take K) = me2 at *
              have hml2 : me2.length ≤ ll.length := fit_len _ _ HNm.out.1 HNm.out.2
              obtain ⟨mo3, mc3, rfl, s1, s2⟩ := HG.out.slice
              have HH := hide (rhas_any me2 n mo3 mc3 wr s1 s2)
              have hWs := HG.out.2.size
              clear f2 s1 s2 hn
              by_cases hmb : n = but
              · have HE : Hid (Grw w (addsB but met (l.take (K + 1))) _ wr) := hide (by rw [HTk.out, addB_but hmb]; exact HG.out)
                have hmn : (n != but) = false := by simpa using hmb
                go_wp2_with fail
                go_roundw
                case rel => exact ⟨K + 1, by omega, by go_num, HE⟩
                case measure => simp [intOf]; omega
              · have hmn : (n != but) = true := by simpa using hmb
                go_wp2_with fail
                refine HH.out.mono ?_; rintro e w8 ⟨rfl, rfl⟩
                cases hh : hasL me2 n with
                | true =>
                  have HE : Hid (Grw w (addsB but met (l.take (K + 1))) _ w8) := hide (by rw [HTk.out, addB_has hmb hh]; exact HG.out)
                  replace hh := hide hh
                  go_wp2_with fail
                  go_roundw
                  case rel => exact ⟨K + 1, by omega, by go_num, HE⟩
                  case measure => simp [intOf]; omega
                | false =>
                  have HA := hide (HTk.out.trans (addB_new hmb hh))
                  replace hh := hide hh
                  go_wp2_with (at_builtin; refine wpList_append_own _ rfl (.tmp 76) (.tmp 81) 22 rfl w.heap.size 3 i0 _ 1 8 Tryz.underlying22 hi0 hz0 hz1 hz2 rfl (by decide) _ _ _ rfl (HG.out.1.alloc _) ⟨w8.heap.size, 0, none⟩ 1 1 [.int .i64 n] rfl rfl one_cell one_one (by unfold maxLen; omega) (by omega) (by simp; omega) ?_; intro v2 w2 own2 grow2 _; refine Hid.out ?_)
                  have HE : Hid (Grw w (addsB but met (l.take (K + 1))) v2 w2) := hide (by rw [HA.out]; exact HG.out.step own2 grow2)
                  clear own2 grow2
                  refine hide ?_
                  go_wp2_with fail
                  go_roundw
                  case rel => exact ⟨K + 1, by omega, by go_num, HE⟩
                  case measure => simp [intOf]; omega
            · obtain rfl : K = l.length := by omega
              have HG2 : Hid (Grw w (addsB but met l) _ wr) := hide (by have := HG.out; rwa [List.take_length] at this)
              have HN2 : Hid (NumD ll.length (addsB but met l)) := hide (NumD.addsB but _ _ HN.out HLn.out)
              have hge : met.length ≤ (addsB but met l).length := addsB_len _ _ _
              go_wp2_with fail
              go_roundw
              case rel => exact ⟨I + 1, _, by omega, by go_num, HG2, HN2, HMs⟩
              case measure => simp [intOf]; omega
        · have HE : Hid (met = metE ll frm but) := hide ((growE_end (by omega)).symm.trans HM.out)
          have HH := hide (rhas_any met to mo mc wr s1 s2)
          clear s1 s2
          have HRt : Hid (hasL met to = hasL (metE ll frm but) to) := hide (by rw [← HE.out])
          go_wp2_with fail
          refine HH.out.mono ?_; rintro e w8 ⟨rfl, rfl⟩
          go_wp2_with fail
          go_ret
          exact ⟨L5.ret_bool HRt.out, HG.out.2⟩
end Go.Proofs.YtmiplohoclckcaaGreat
