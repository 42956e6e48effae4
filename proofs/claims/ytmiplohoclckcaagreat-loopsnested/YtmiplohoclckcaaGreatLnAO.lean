/- Layer 9, mathematics: the order of a function's blocks holds just those that are reached; each behind one that goes to it. Layer 10, mathematics: loops; into a loop by its head alone; of two loops that share a block the one's head is within the other one. -/
import Derived.Test.YtmiplohoclckcaaGreatLnAN
namespace Go.Proofs.YtmiplohoclckcaaGreat
open Go Go.RowKit
open G (Tok Er Ins Fun)
/-- What is put behind a list: each of it follows a block, or one that stands behind it there. -/
def Par (f : Fun) (k : Int) (done out : List Int) : Prop := ∃ e, out = done ++ e ∧ ∀ y ∈ e, y ∈ nextF f k.toNat ∨ ∃ x a b, e = a ++ b ∧ y ∈ a ∧ x ∈ b ∧ y ∈ nextF f x.toNat
theorem Par.refl (f : Fun) (k : Int) (done : List Int) : Par f k done done := ⟨[], by simp, by simp⟩
theorem Par.trans {f : Fun} {k : Int} {a b c : List Int} (h : Par f k a b) (j : Par f k b c) : Par f k a c := by
  obtain ⟨e, rfl, h1⟩ := h
  obtain ⟨d, rfl, j1⟩ := j
  refine ⟨e ++ d, by simp, fun y hy => ?_⟩
  rcases List.mem_append.1 hy with hy | hy
  · rcases h1 y hy with q | ⟨x, a1, b1, rfl, q2, q3, q4⟩
    · exact .inl q
    · exact .inr ⟨x, a1, b1 ++ d, by simp, q2, by simp [q3], q4⟩
  · rcases j1 y hy with q | ⟨x, a1, b1, rfl, q2, q3, q4⟩
    · exact .inl q
    · exact .inr ⟨x, e ++ a1, b1, by simp, by simp [q2], q3, q4⟩
theorem walk_par {f : Fun} {N : Nat} {path : List Int} {k : Int} (hs : ∀ m out, m ∈ nextF f k.toNat → Par f k out (postF f N m out path)) :
    ∀ (l out : List Int), (∀ m ∈ l, m ∈ nextF f k.toNat) → Par f k out (walkF f N path out l) := by
  intro l
  induction l with
  | nil => intro out _; exact Par.refl _ _ _
  | cons m l ih =>
    intro out hl
    have e : walkF f N path out (m :: l) = walkF f N path (stepF f N path out m) l := rfl
    rw [e]
    refine Par.trans ?_ (ih _ (fun x hx => hl x (by simp [hx])))
    by_cases hc : hasL out m = true ∨ hasL path m = true
    · rw [stepF_no hc]; exact Par.refl _ _ _
    · have hc1 : hasL out m = false := by simpa using fun e => hc (.inl e)
      have hc2 : hasL path m = false := by simpa using fun e => hc (.inr e)
      rw [stepF_yes hc1 hc2]
      exact hs m out (hl m (by simp))
theorem post_par {f : Fun} : ∀ (N : Nat) (k : Int) (done op : List Int), ∃ out, Par f k done out ∧ (postF f N k done op = out ++ [k] ∨ postF f N k done op = done) := by
  intro N
  induction N with
  | zero => intro k done op; exact ⟨done, Par.refl _ _ _, .inr rfl⟩
  | succ N ih =>
    intro k done op
    refine ⟨walkF f N (op ++ [k]) done (nextF f k.toNat), ?_, .inl (postF_succ f N k done op)⟩
    refine walk_par (fun m out hm => ?_) _ _ (fun m hm => hm)
    obtain ⟨o, h1, h2⟩ := ih m out (op ++ [k])
    rcases h2 with e | e
    · rw [e]
      obtain ⟨d, rfl, h3⟩ := h1
      refine ⟨d ++ [m], by simp, fun y hy => ?_⟩
      rcases List.mem_append.1 hy with hy | hy
      · rcases h3 y hy with q | ⟨x, a1, b1, rfl, q2, q3, q4⟩
        · exact .inr ⟨m, d, [m], rfl, hy, by simp, q⟩
        · exact .inr ⟨x, a1, b1 ++ [m], by simp, q2, by simp [q3], q4⟩
      · simp at hy
        subst hy
        exact .inl hm
    · rw [e]; exact Par.refl _ _ _
/-- All that stands there is reached. -/
theorem post_all {f : Fun} {Q : Int → Prop} (hQ : ∀ x m, Q x → m ∈ nextF f x.toNat → Q m) : ∀ (N : Nat) (k : Int) (done op : List Int), Q k → (∀ x ∈ done, Q x) → ∀ x ∈ postF f N k done op, Q x := by
  intro N
  induction N with
  | zero => intro k done op _ h; exact h
  | succ N ih =>
    intro k done op hk hd x hx
    rw [postF_succ] at hx
    have key : ∀ (l out : List Int), (∀ m ∈ l, Q m) → (∀ m ∈ out, Q m) → ∀ m ∈ walkF f N (op ++ [k]) out l, Q m := by
      intro l
      induction l with
      | nil => intro out _ h; exact h
      | cons m l ih2 =>
        intro out hl ho
        refine ih2 _ (fun x hx => hl x (by simp [hx])) ?_
        unfold stepF
        split
        · exact ho
        · exact ih m out _ (hl m (by simp)) ho
    rcases List.mem_append.1 hx with hx | hx
    · exact key _ _ (fun m hm => hQ k m hk hm) hd x hx
    · simp at hx; subst hx; exact hk
/-- Who follows one of those that were put there stands there too, or is on the path. -/
theorem post_closed {f : Fun} (hT : Tos f) : ∀ (N : Nat) (k : Int) (done op : List Int), (op ++ [k]).Nodup → Num f.2.2.2.1.length (op ++ [k]) → N + op.length = f.2.2.2.1.length →
    k ∈ postF f N k done op ∧ (∀ x ∈ done, x ∈ postF f N k done op) ∧ ∀ x ∈ postF f N k done op, x ∉ done → ∀ y ∈ nextF f x.toNat, y ∈ postF f N k done op ∨ y ∈ op := by
  intro N
  induction N with
  | zero =>
    intro k done op h1 h2 h3
    have := fit_len _ _ h1 h2
    simp at this
    omega
  | succ N ih =>
    intro k done op h1 h2 h3
    have key : ∀ (l out : List Int), Num f.2.2.2.1.length l → (∀ x ∈ done, x ∈ out) → (∀ x ∈ out, x ∉ done → ∀ y ∈ nextF f x.toNat, y ∈ out ∨ y ∈ op ++ [k]) →
        (∀ m ∈ l, m ∈ walkF f N (op ++ [k]) out l ∨ m ∈ op ++ [k]) ∧ (∀ x ∈ out, x ∈ walkF f N (op ++ [k]) out l) ∧ (∀ x ∈ walkF f N (op ++ [k]) out l, x ∉ done → ∀ y ∈ nextF f x.toNat, y ∈ walkF f N (op ++ [k]) out l ∨ y ∈ op ++ [k]) := by
      intro l
      induction l with
      | nil => intro out _ _ h; exact ⟨by simp, fun x hx => hx, h⟩
      | cons m l ih2 =>
        intro out hl hd hc
        have e : walkF f N (op ++ [k]) out (m :: l) = walkF f N (op ++ [k]) (stepF f N (op ++ [k]) out m) l := rfl
        rw [e]
        by_cases hm : hasL out m = true ∨ hasL (op ++ [k]) m = true
        · rw [stepF_no hm]
          obtain ⟨k1, k2, k3⟩ := ih2 out (fun x hx => hl x (by simp [hx])) hd hc
          refine ⟨fun x hx => ?_, k2, k3⟩
          rcases List.mem_cons.1 hx with rfl | hx
          · rcases hm with hm | hm
            · exact .inl (k2 _ (hasL_mem.1 hm))
            · exact .inr (hasL_mem.1 hm)
          · exact k1 x hx
        · have hc1 : hasL out m = false := by simpa using fun e => hm (.inl e)
          have hc2 : hasL (op ++ [k]) m = false := by simpa using fun e => hm (.inr e)
          rw [stepF_yes hc1 hc2]
          have hnd : (op ++ [k] ++ [m]).Nodup := List.nodup_append.2 ⟨h1, by simp, by rintro x hx y hy rfl; simp at hy; subst hy; exact hasL_no.1 hc2 hx⟩
          have hnu : Num f.2.2.2.1.length (op ++ [k] ++ [m]) := by
            intro x hx
            rcases List.mem_append.1 hx with hx | hx
            · exact h2 x hx
            · simp at hx; subst hx; exact hl x (by simp)
          obtain ⟨j1, j2, j3⟩ := ih m out (op ++ [k]) hnd hnu (by simp; omega)
          obtain ⟨k1, k2, k3⟩ := ih2 (postF f N m out (op ++ [k])) (fun x hx => hl x (by simp [hx])) (fun x hx => j2 x (hd x hx)) (by
            intro x hx hxd y hy
            by_cases hxo : x ∈ out
            · rcases hc x hxo hxd y hy with q | q
              · exact .inl (j2 y q)
              · exact .inr q
            · exact j3 x hx hxo y hy)
          refine ⟨fun x hx => ?_, fun x hx => k2 x (j2 x hx), k3⟩
          rcases List.mem_cons.1 hx with rfl | hx
          · exact .inl (k2 _ j1)
          · exact k1 x hx
    obtain ⟨k1, k2, k3⟩ := key (nextF f k.toNat) done (hT _) (fun x hx => hx) (fun x hx hn => absurd hx hn)
    rw [postF_succ]
    refine ⟨by simp, fun x hx => by simp [k2 x hx], fun x hx hxd y hy => ?_⟩
    have fin : y ∈ walkF f N (op ++ [k]) done (nextF f k.toNat) ∨ y ∈ op ++ [k] → y ∈ walkF f N (op ++ [k]) done (nextF f k.toNat) ++ [k] ∨ y ∈ op := by
      rintro (q | q)
      · exact .inl (by simp [q])
      · rcases List.mem_append.1 q with q | q
        · exact .inr q
        · exact .inl (by simp at q; simp [q])
    rcases List.mem_append.1 hx with hx | hx
    · exact fin (k3 x hx hxd y hy)
    · simp at hx
      subst hx
      exact fin (k1 y hy)
theorem next_getD {f : Fun} {b : Int} (h : b.toNat < f.2.2.2.1.length) : (succsF f).getD b.toNat [] = nextF f b.toNat := by
  rw [List.getD_eq_getElem?_getD, succsF_at h]; rfl
theorem gr_succs {f : Fun} (hT : Tos f) (h0 : 0 < f.2.2.2.1.length) : Gr (succsF f) := by
  refine ⟨fun l hl => ?_, by rw [succsF_len]; exact h0⟩
  obtain ⟨K, hK, rfl⟩ := List.mem_iff_getElem.1 hl
  have hK2 : K < f.2.2.2.1.length := by rw [← succsF_len]; exact hK
  have e := succsF_at hK2
  rw [List.getElem?_eq_getElem hK] at e
  injection e with e
  rw [e, succsF_len]
  exact hT K
theorem all_next {f : Fun} (hT : Tos f) (h0 : 0 < f.2.2.2.1.length) {x m : Int} (h : All (succsF f) x) (hm : m ∈ nextF f x.toNat) : All (succsF f) m := by
  have hx := h.num (gr_succs hT h0)
  rw [succsF_len] at hx
  refine h.step (by rw [next_getD (by omega)]; exact hm) ?_
  have := hT _ m hm
  omega
theorem mem_order {f : Fun} (hT : Tos f) (h0 : 0 < f.2.2.2.1.length) (m : Int) : m ∈ orderF f ↔ All (succsF f) m := by
  unfold orderF
  rw [List.mem_reverse]
  constructor
  · exact post_all (f := f) (Q := All (succsF f)) (fun x m hx hm => all_next hT h0 hx hm) _ 0 [] [] (All.first _) (by simp) m
  · obtain ⟨h1, _, h3⟩ := post_closed hT f.2.2.2.1.length 0 [] [] (by simp) (fun m hm => by simp at hm; subst hm; omega) (by simp)
    refine Rch.rec' (fun x hx _ => ?_) (fun b c hb hm hc _ => ?_) m
    · simp at hx; subst hx; exact h1
    · have hx := All.num (gr_succs hT h0) hb
      rw [succsF_len] at hx
      rw [next_getD (by omega)] at hc
      rcases h3 b hm (by simp) c hc with q | q
      · exact q
      · simp at q
/-- Where a block stands is where the order has it. -/
theorem at_order {f : Fun} (hT : Tos f) (h0 : 0 < f.2.2.2.1.length) {i : Nat} {b : Int} (h : (orderF f)[i]? = some b) : atF f b = i :=
  (placeL_yes (take_fresh (order_num hT h0).1 h) h).symm
theorem at_all {f : Fun} (hT : Tos f) (h0 : 0 < f.2.2.2.1.length) (b : Int) : All (succsF f) b ↔ 0 ≤ atF f b := by
  rw [← mem_order hT h0]
  constructor
  · intro h
    obtain ⟨i, hi, rfl⟩ := List.mem_iff_getElem.1 h
    rw [at_order hT h0 (List.getElem?_eq_getElem hi)]
    omega
  · intro h
    refine Classical.byContradiction fun e => ?_
    have := placeL_no (l := orderF f) (hasL_no.2 e)
    unfold atF at h
    omega
/-- An order of the blocks that are reached: the first one first, each other one behind one that goes to it. -/
def Ord (ll : List (List Int)) (pl : Int → Int) : Prop := (∀ b, All ll b ↔ 0 ≤ pl b) ∧ (∀ a b, All ll a → All ll b → pl a = pl b → a = b) ∧ pl 0 = 0 ∧
  ∀ b, All ll b → b ≠ 0 → ∃ p, All ll p ∧ b ∈ ll.getD p.toNat [] ∧ pl p < pl b
theorem ord_of {f : Fun} (hT : Tos f) (h0 : 0 < f.2.2.2.1.length) : Ord (succsF f) (atF f) := by
  have idx : ∀ b, All (succsF f) b → ∃ i : Nat, (orderF f)[i]? = some b ∧ atF f b = i := by
    intro b hb
    obtain ⟨i, hi, e⟩ := List.mem_iff_getElem.1 ((mem_order hT h0 b).2 hb)
    have h : (orderF f)[i]? = some b := by rw [List.getElem?_eq_getElem hi, e]
    exact ⟨i, h, at_order hT h0 h⟩
  obtain ⟨out, hp, he⟩ := post_par (f := f) f.2.2.2.1.length 0 [] []
  have he1 : postF f f.2.2.2.1.length 0 [] [] = out ++ [0] := by
    rcases he with e | e
    · exact e
    · have := (post_closed hT f.2.2.2.1.length 0 [] [] (by simp) (fun m hm => by simp at hm; subst hm; omega) (by simp)).1
      rw [e] at this
      simp at this
  have hord : orderF f = 0 :: out.reverse := by unfold orderF; rw [he1]; simp
  have hz : atF f 0 = 0 := at_order hT h0 (i := 0) (by rw [hord]; rfl)
  refine ⟨at_all hT h0, fun a b ha hb e => ?_, hz, fun b hb hne => ?_⟩
  · obtain ⟨i, h1, h2⟩ := idx a ha
    obtain ⟨j, k1, k2⟩ := idx b hb
    have : i = j := by omega
    subst this
    rw [h1] at k1
    injection k1
  · obtain ⟨e, hee, hpar⟩ := hp
    have hee2 : e = out := by simpa using hee.symm
    subst hee2
    have hbe : b ∈ e := by
      have := (mem_order hT h0 b).2 hb
      rw [hord] at this
      rcases List.mem_cons.1 this with q | q
      · exact absurd q hne
      · simpa using q
    have back : ∀ (x y : Int) (a c : List Int), e ++ [0] = a ++ c → y ∈ a → x ∈ c → y ∈ nextF f x.toNat → ∃ p, All (succsF f) p ∧ y ∈ (succsF f).getD p.toNat [] ∧ atF f p < atF f y := by
      intro x y a c hac hy hx hyx
      have ho : orderF f = c.reverse ++ a.reverse := by
        have : orderF f = (e ++ [0]).reverse := by rw [hord]; simp
        rw [this, hac]; simp
      have hxo : x ∈ orderF f := by rw [ho]; simp [hx]
      have hxa := (mem_order hT h0 x).1 hxo
      have hn := hxa.num (gr_succs hT h0)
      rw [succsF_len] at hn
      refine ⟨x, hxa, by rw [next_getD (by omega)]; exact hyx, ?_⟩
      obtain ⟨i, hi, ei⟩ := List.mem_iff_getElem.1 (List.mem_reverse.2 hx)
      obtain ⟨j, hj, ej⟩ := List.mem_iff_getElem.1 (List.mem_reverse.2 hy)
      have q1 : (orderF f)[i]? = some x := by rw [ho, List.getElem?_append_left hi, List.getElem?_eq_getElem hi, ei]
      have q2 : (orderF f)[c.reverse.length + j]? = some y := by
        rw [ho, List.getElem?_append_right (by omega), Nat.add_sub_cancel_left, List.getElem?_eq_getElem hj, ej]
      rw [at_order hT h0 q1, at_order hT h0 q2]
      omega
    rcases hpar b hbe with q | ⟨x, a, c, hac, q2, q3, q4⟩
    · exact back 0 b e [0] rfl hbe (by simp) q
    · exact back x b a (c ++ [0]) (by rw [hac]; simp) q2 (by simp [q3]) q4
end Go.Proofs.YtmiplohoclckcaaGreat
namespace Go.Proofs.YtmiplohoclckcaaGreat
open Go Go.RowKit
open G (Tok Er Ins Fun)
/-- A loop: its head, its blocks, the blocks that go back, the loop that it is within. -/
abbrev Lp := Int × List Int × List Int × Int
/-- The blocks, below a number, that go to one that stands ahead of them. -/
def backsK (f : Fun) (h : Int) (K : Nat) : List Int := ((List.range K).filter fun (k : Nat) => hasL (nextF f k) h && aheadB (succsF f) h k).map Int.ofNat
def backsOf (f : Fun) (h : Int) : List Int := backsK f h f.2.2.2.1.length
theorem backsK_len (f : Fun) (h : Int) (K : Nat) : (backsK f h K).length ≤ K := by
  unfold backsK; rw [List.length_map]
  exact Nat.le_trans (List.length_filter_le _ _) (by simp)
theorem mem_backs {f : Fun} {h b : Int} (hb : b ∈ backsOf f h) : 0 ≤ b ∧ b < f.2.2.2.1.length ∧ h ∈ nextF f b.toNat ∧ aheadB (succsF f) h b = true := by
  unfold backsOf backsK at hb
  obtain ⟨a, ha, rfl⟩ := List.mem_map.1 hb
  obtain ⟨h1, h2⟩ := List.mem_filter.1 ha
  simp only [Bool.and_eq_true] at h2
  have e : (Int.ofNat a).toNat = a := rfl
  exact ⟨by simp, by simpa using h1, by rw [e]; exact hasL_mem.1 h2.1, h2.2⟩
/-- Is a block a loop's: is it the head, or is there a way to one that goes back, not by way of the head? -/
def inL (ll : List (List Int)) (h : Int) (frm : List Int) (k : Int) : Bool := decide (k = h) || frm.any fun b => hasL (metE ll [k] h) b
theorem inL_iff {ll : List (List Int)} (hg : Gr ll) {h k : Int} {frm : List Int} (hk : 0 ≤ k ∧ k < ll.length) : inL ll h frm k = true ↔ (k = h ∨ ∃ b ∈ frm, Rch ll [k] h b) := by
  unfold inL
  have hn : Num ll.length [k] := fun m hm => by simp at hm; subst hm; exact hk
  simp only [Bool.or_eq_true, decide_eq_true_eq, List.any_eq_true, hasL_mem, metE_iff hg.1 hn]
def blocksK (f : Fun) (h : Int) (K : Nat) : List Int := ((List.range K).filter fun (k : Nat) => inL (succsF f) h (backsOf f h) k).map Int.ofNat
def blocksOf (f : Fun) (h : Int) : List Int := blocksK f h f.2.2.2.1.length
theorem blocksK_yes {f : Fun} {h : Int} {K : Nat} (h1 : inL (succsF f) h (backsOf f h) K = true) : blocksK f h (K + 1) = blocksK f h K ++ [(K : Int)] := by
  unfold blocksK; rw [List.range_succ, List.filter_append, List.map_append]; simp [h1]
theorem blocksK_no {f : Fun} {h : Int} {K : Nat} (h1 : inL (succsF f) h (backsOf f h) K = false) : blocksK f h (K + 1) = blocksK f h K := by
  unfold blocksK; rw [List.range_succ, List.filter_append, List.map_append]; simp [h1]
theorem blocksK_len (f : Fun) (h : Int) (K : Nat) : (blocksK f h K).length ≤ K := by
  unfold blocksK; rw [List.length_map]
  exact Nat.le_trans (List.length_filter_le _ _) (by simp)
theorem mem_blocks {f : Fun} {h k : Int} : k ∈ blocksOf f h ↔ (0 ≤ k ∧ k < f.2.2.2.1.length ∧ inL (succsF f) h (backsOf f h) k = true) := by
  unfold blocksOf blocksK
  rw [List.mem_map]
  constructor
  · rintro ⟨a, ha, rfl⟩
    obtain ⟨h1, h2⟩ := List.mem_filter.1 ha
    exact ⟨by simp, by simpa using h1, h2⟩
  · rintro ⟨h1, h2, h3⟩
    refine ⟨k.toNat, List.mem_filter.2 ⟨by simp; omega, ?_⟩, by simp; omega⟩
    have e : ((k.toNat : Nat) : Int) = k := by omega
    rw [e]; exact h3
/-- The loops of the heads below a number, not yet told which is within which. -/
def loopK (f : Fun) (K : Nat) : List Lp := ((List.range K).filter fun (h : Nat) => decide (backsOf f h ≠ [])).map fun (h : Nat) => ((h : Int), blocksOf f h, backsOf f h, -1)
def rawL (f : Fun) : List Lp := loopK f f.2.2.2.1.length
theorem loopK_yes {f : Fun} {K : Nat} (h : backsOf f K ≠ []) : loopK f (K + 1) = loopK f K ++ [((K : Int), blocksOf f K, backsOf f K, -1)] := by
  unfold loopK; rw [List.range_succ, List.filter_append, List.map_append]; simp [h]
theorem loopK_no {f : Fun} {K : Nat} (h : backsOf f K = []) : loopK f (K + 1) = loopK f K := by
  unfold loopK; rw [List.range_succ, List.filter_append, List.map_append]; simp [h]
theorem loopK_len (f : Fun) (K : Nat) : (loopK f K).length ≤ K := by
  unfold loopK; rw [List.length_map]
  exact Nat.le_trans (List.length_filter_le _ _) (by simp)
def lp0 : Lp := (0, [], [], 0)
def lpN (l : List Lp) (k : Nat) : Lp := l.getD k lp0
theorem lpN_at {l : List Lp} {k : Nat} (h : k < l.length) : l[k]? = some (lpN l k) := by
  unfold lpN; rw [List.getD_eq_getElem?_getD, List.getElem?_eq_getElem h]; rfl
def nB (l : List Lp) (k : Nat) : Nat := (lpN l k).2.1.length
/-- May a loop be the one that another one is within? -/
def okB (l : List Lp) (i k : Nat) : Bool := decide (k ≠ i) && hasL (lpN l k).2.1 (lpN l i).1 && decide (nB l i < nB l k)
def bestK (l : List Lp) (i : Nat) : Nat → Int
  | 0 => -1
  | K + 1 => if okB l i K && (decide (bestK l i K < 0) || decide (nB l K < nB l (bestK l i K).toNat)) then (K : Int) else bestK l i K
theorem bestK_low (l : List Lp) (i : Nat) : ∀ K, -1 ≤ bestK l i K ∧ bestK l i K < K := by
  intro K
  induction K with
  | zero => simp [bestK]
  | succ K ih =>
    rw [bestK]
    split
    · omega
    · omega
def upsK (l : List Lp) (K : Nat) : List Lp := (List.range K).map fun i => ((lpN l i).1, (lpN l i).2.1, (lpN l i).2.2.1, bestK l i l.length)
theorem upsK_len (l : List Lp) (K : Nat) : (upsK l K).length = K := by simp [upsK]
/-- The loops of a function. -/
def loopsF (f : Fun) : List Lp := upsK (rawL f) (rawL f).length
theorem loopsF_len (f : Fun) : (loopsF f).length ≤ f.2.2.2.1.length := by
  unfold loopsF; rw [upsK_len]; exact loopK_len _ _
theorem mem_raw {f : Fun} {x : Lp} (h : x ∈ rawL f) : ∃ k : Nat, k < f.2.2.2.1.length ∧ x.1 = k ∧ x.2.1 = blocksOf f k ∧ x.2.2.1 = backsOf f k ∧ backsOf f k ≠ [] := by
  unfold rawL loopK at h
  obtain ⟨a, ha, rfl⟩ := List.mem_map.1 h
  obtain ⟨h1, h2⟩ := List.mem_filter.1 ha
  exact ⟨a, by simpa using h1, rfl, rfl, rfl, by simpa using h2⟩
theorem mem_loops {f : Fun} {x : Lp} (h : x ∈ loopsF f) : ∃ k : Nat, k < f.2.2.2.1.length ∧ x.1 = k ∧ x.2.1 = blocksOf f k ∧ x.2.2.1 = backsOf f k ∧ backsOf f k ≠ [] := by
  unfold loopsF upsK at h
  obtain ⟨i, hi, rfl⟩ := List.mem_map.1 h
  have hi2 : i < (rawL f).length := by simpa using hi
  have h2 := mem_raw (x := lpN (rawL f) i) (List.mem_of_getElem? (lpN_at hi2))
  exact h2
/-- The heads of two loops are unlike. -/
theorem heads_apart {f : Fun} {i j : Nat} {x y : Lp} (hx : (loopsF f)[i]? = some x) (hy : (loopsF f)[j]? = some y) (h : x.1 = y.1) : i = j := by
  have hmap : (loopsF f).map (·.1) = (rawL f).map (·.1) := by
    apply List.ext_getElem?
    intro k
    unfold loopsF
    rw [List.getElem?_map, List.getElem?_map]
    by_cases hk : k < (rawL f).length
    · unfold upsK
      rw [List.getElem?_map, List.getElem?_range hk, lpN_at hk]; rfl
    · rw [List.getElem?_eq_none (by rw [upsK_len]; omega), List.getElem?_eq_none (by omega)]
  have hnd : ((rawL f).map (·.1)).Nodup := by
    unfold rawL loopK
    rw [List.map_map]
    refine List.Pairwise.map _ ?_ (List.Pairwise.filter _ (List.nodup_range (n := f.2.2.2.1.length)))
    intro a b hab e
    have : (a : Int) = (b : Int) := e
    exact hab (by omega)
  rw [← hmap] at hnd
  have hix : ((loopsF f).map (·.1))[i]? = some x.1 := by rw [List.getElem?_map, hx]; rfl
  have hiy : ((loopsF f).map (·.1))[j]? = some x.1 := by rw [List.getElem?_map, hy, h]; rfl
  obtain ⟨i1, i2⟩ := List.getElem?_eq_some_iff.1 hix
  obtain ⟨j1, j2⟩ := List.getElem?_eq_some_iff.1 hiy
  exact (List.getElem_inj hnd).1 (i2.trans j2.symm)
theorem Rch.join {ll : List (List Int)} {a k z b : Int} (h : Rch ll [a] z k) (hk : Rch ll [k] z b) : Rch ll [a] z b := by
  refine Rch.rec' (Q := fun m => Rch ll [a] z m) (fun m hm _ => ?_) (fun x c _ hx hc hz => hx.step hc hz) b hk
  simp at hm
  subst hm
  exact h
theorem Rch.from0 {ll : List (List Int)} {k z b : Int} (h : Rch ll [0] z k) (hk : Rch ll [k] z b) : Rch ll [0] z b := h.join hk
theorem blocks_iff {f : Fun} (hT : Tos f) (h0 : 0 < f.2.2.2.1.length) {h k : Int} : k ∈ blocksOf f h ↔ (0 ≤ k ∧ k < f.2.2.2.1.length ∧ (k = h ∨ ∃ b ∈ backsOf f h, Rch (succsF f) [k] h b)) := by
  rw [mem_blocks]
  have hg := gr_succs hT h0
  constructor
  · rintro ⟨h1, h2, h3⟩
    exact ⟨h1, h2, (inL_iff hg ⟨h1, by rw [succsF_len]; exact h2⟩).1 h3⟩
  · rintro ⟨h1, h2, h3⟩
    exact ⟨h1, h2, (inL_iff hg ⟨h1, by rw [succsF_len]; exact h2⟩).2 h3⟩
/-- The head stands ahead of all its blocks that are reached. -/
theorem head_ahead {f : Fun} (hT : Tos f) (h0 : 0 < f.2.2.2.1.length) {h k : Int} (hb : backsOf f h ≠ []) (hk : k ∈ blocksOf f h) (ha : All (succsF f) k) : Ahd (succsF f) h k := by
  have hg := gr_succs hT h0
  obtain ⟨_, _, h3⟩ := (blocks_iff hT h0).1 hk
  rcases h3 with rfl | ⟨b, hbm, hr⟩
  · exact Ahd.refl ha
  · have hah := (ahead_iff hg _ _).1 (mem_backs hbm).2.2.2
    refine ⟨hah.1, ha, .inr fun hrk => ?_⟩
    rcases hah.2.2 with rfl | h4
    · exact hr.ne rfl
    · exact h4 (hrk.from0 hr)
/-- Of two loops that share a block that is reached the one's head is within the other one. -/
theorem nested_half {f : Fun} (hT : Tos f) (h0 : 0 < f.2.2.2.1.length) {h g k : Int} (hb : backsOf f h ≠ []) (gb : backsOf f g ≠ []) (hk : k ∈ blocksOf f h) (gk : k ∈ blocksOf f g) (ha : All (succsF f) k) (hne : h ≠ g) (hhg : Ahd (succsF f) h g) : g ∈ blocksOf f h := by
  have hg := gr_succs hT h0
  have hgn := hhg.2.1.num hg
  rw [succsF_len] at hgn
  have hgk := head_ahead hT h0 gb gk ha
  have key : ∀ m, All (succsF f) m → Rch (succsF f) [g] h m ∨ Rch (succsF f) [0] g m := by
    refine Rch.rec' (fun m hm _ => ?_) (fun m c hm ih hc _ => ?_)
    · by_cases e : m = g
      · subst e; exact .inl (Rch.start (by simp) (fun e => hne e.symm))
      · exact .inr (Rch.start hm e)
    · rcases ih with ih | ih
      · by_cases e : c = h
        · subst e
          right
          refine Classical.byContradiction fun e2 => hne (hhg.anti ⟨hhg.2.1, hhg.1, .inr e2⟩)
        · exact .inl (ih.step hc e)
      · by_cases e : c = g
        · subst e; exact .inl (Rch.start (by simp) (fun e => hne e.symm))
        · exact .inr (ih.step hc e)
  have hgA : Rch (succsF f) [g] h k := by
    rcases key k ha with q | q
    · exact q
    · rcases hgk.2.2 with rfl | h4
      · exact Rch.start (by simp) (fun e => hne e.symm)
      · exact absurd q h4
  obtain ⟨_, _, h3⟩ := (blocks_iff hT h0).1 hk
  rcases h3 with rfl | ⟨b, hbm, hr⟩
  · exact absurd rfl hgA.ne
  · exact (blocks_iff hT h0).2 ⟨hgn.1, hgn.2, .inr ⟨b, hbm, hgA.join hr⟩⟩
theorem nested_any {f : Fun} (hT : Tos f) (h0 : 0 < f.2.2.2.1.length) {h g k : Int} (hb : backsOf f h ≠ []) (gb : backsOf f g ≠ []) (hk : k ∈ blocksOf f h) (gk : k ∈ blocksOf f g) (ha : All (succsF f) k) (hne : h ≠ g) : g ∈ blocksOf f h ∨ h ∈ blocksOf f g := by
  rcases (head_ahead hT h0 hb hk ha).chain (head_ahead hT h0 gb gk ha) with q | q
  · exact .inl (nested_half hT h0 hb gb hk gk ha hne q)
  · exact .inr (nested_half hT h0 gb hb gk hk ha (fun e => hne e.symm) q)
/-- In how many of the first so many loops a block is. -/
def depthL (l : List Lp) (k : Int) (K : Nat) : Nat := cntB (fun i => hasL (lpN l i).2.1 k) K
/-- The blocks without a loop, below a number, that go to its head. -/
def entersK (f : Fun) (x : Lp) (K : Nat) : List Int := ((List.range K).filter fun (k : Nat) => !hasL x.2.1 k && hasL (nextF f k) x.1).map Int.ofNat
def entryF (f : Fun) (x : Lp) : Int := match entersK f x f.2.2.2.1.length with
  | [k] => if (nextF f k.toNat).length = 1 then k else -1
  | _ => -1
/-- The numbers of the first so many loops, those with fewer blocks ahead. -/
def innerK (l : List Lp) : Nat → List Int
  | 0 => []
  | K + 1 => (innerK l K).takeWhile (fun j => decide (nB l j.toNat ≤ nB l K)) ++ [(K : Int)] ++ (innerK l K).drop ((innerK l K).takeWhile (fun j => decide (nB l j.toNat ≤ nB l K))).length
def innerF (l : List Lp) : List Int := innerK l l.length
end Go.Proofs.YtmiplohoclckcaaGreat
