/- Layer 9, mathematics: the order of a function's blocks holds just those that are reached; each behind one that goes to it. Layer 9, mathematics: ways up by what is known of the last one ahead; rounds through the order; what a round leaves is nearer to what is asked, and where nothing changes it is just that. -/
import Derived.Test.YtnlcpfijfjbgjaaTeAN
import Derived.Test.YtnlcpfijfjbgjaaTeAP
namespace Go.Proofs.Ytnlcpfijfjbgjaa
open Go Go.RowKit
open G (Tok Er Ins Fun)
/-- What is put behind a list: each of it follows a block, or one that stands behind it there. -/
def Par (f : Fun) (k : Int) (done out : List Int) : Prop := ∃ e, out = done ++ e ∧ ∀ y ∈ e, y ∈ nextF f k.toNat ∨ ∃ x a b, e = a ++ b ∧ y ∈ a ∧ x ∈ b ∧ y ∈ nextF f x.toNat
theorem Par.refl (f : Fun) (k : Int) (done : List Int) : Par f k done done := ⟨[], by simp, by simp⟩
theorem Par.trans {f : Fun} {k : Int} {a b c : List Int} (h : Par f k a b) (j : Par f k b c) : Par f k a c := by
  obtain ⟨e, rfl, h1⟩ := h
  obtain ⟨d, rfl, j1⟩ := j
  refine ⟨e ++ d, by simp, fun y hy => ?_⟩
  rcases List.mem_append.1 hy with hy | hy
  · rcases h1 y hy with q | ⟨x, a1, b1, rfl, q2, q3, q4⟩
    · exact .inl q
    · exact .inr ⟨x, a1, b1 ++ d, by simp, q2, by simp [q3], q4⟩
  · rcases j1 y hy with q | ⟨x, a1, b1, rfl, q2, q3, q4⟩
    · exact .inl q
    · exact .inr ⟨x, e ++ a1, b1, by simp, by simp [q2], q3, q4⟩
theorem walk_par {f : Fun} {N : Nat} {path : List Int} {k : Int} (hs : ∀ m out, m ∈ nextF f k.toNat → Par f k out (postF f N m out path)) :
    ∀ (l out : List Int), (∀ m ∈ l, m ∈ nextF f k.toNat) → Par f k out (walkF f N path out l) := by
  intro l
  induction l with
  | nil => intro out _; exact Par.refl _ _ _
  | cons m l ih =>
    intro out hl
    have e : walkF f N path out (m :: l) = walkF f N path (stepF f N path out m) l := rfl
    rw [e]
    refine Par.trans ?_ (ih _ (fun x hx => hl x (by simp [hx])))
    by_cases hc : hasL out m = true ∨ hasL path m = true
    · rw [stepF_no hc]; exact Par.refl _ _ _
    · have hc1 : hasL out m = false := by simpa using fun e => hc (.inl e)
      have hc2 : hasL path m = false := by simpa using fun e => hc (.inr e)
      rw [stepF_yes hc1 hc2]
      exact hs m out (hl m (by simp))
theorem post_par {f : Fun} : ∀ (N : Nat) (k : Int) (done op : List Int), ∃ out, Par f k done out ∧ (postF f N k done op = out ++ [k] ∨ postF f N k done op = done) := by
  intro N
  induction N with
  | zero => intro k done op; exact ⟨done, Par.refl _ _ _, .inr rfl⟩
  | succ N ih =>
    intro k done op
    refine ⟨walkF f N (op ++ [k]) done (nextF f k.toNat), ?_, .inl (postF_succ f N k done op)⟩
    refine walk_par (fun m out hm => ?_) _ _ (fun m hm => hm)
    obtain ⟨o, h1, h2⟩ := ih m out (op ++ [k])
    rcases h2 with e | e
    · rw [e]
      obtain ⟨d, rfl, h3⟩ := h1
      refine ⟨d ++ [m], by simp, fun y hy => ?_⟩
      rcases List.mem_append.1 hy with hy | hy
      · rcases h3 y hy with q | ⟨x, a1, b1, rfl, q2, q3, q4⟩
        · exact .inr ⟨m, d, [m], rfl, hy, by simp, q⟩
        · exact .inr ⟨x, a1, b1 ++ [m], by simp, q2, by simp [q3], q4⟩
      · simp at hy
        subst hy
        exact .inl hm
    · rw [e]; exact Par.refl _ _ _
/-- All that stands there is reached. -/
theorem post_all {f : Fun} {Q : Int → Prop} (hQ : ∀ x m, Q x → m ∈ nextF f x.toNat → Q m) : ∀ (N : Nat) (k : Int) (done op : List Int), Q k → (∀ x ∈ done, Q x) → ∀ x ∈ postF f N k done op, Q x := by
  intro N
  induction N with
  | zero => intro k done op _ h; exact h
  | succ N ih =>
    intro k done op hk hd x hx
    rw [postF_succ] at hx
    have key : ∀ (l out : List Int), (∀ m ∈ l, Q m) → (∀ m ∈ out, Q m) → ∀ m ∈ walkF f N (op ++ [k]) out l, Q m := by
      intro l
      induction l with
      | nil => intro out _ h; exact h
      | cons m l ih2 =>
        intro out hl ho
        refine ih2 _ (fun x hx => hl x (by simp [hx])) ?_
        unfold stepF
        split
        · exact ho
        · exact ih m out _ (hl m (by simp)) ho
    rcases List.mem_append.1 hx with hx | hx
    · exact key _ _ (fun m hm => hQ k m hk hm) hd x hx
    · simp at hx; subst hx; exact hk
/-- Who follows one of those that were put there stands there too, or is on the path. -/
theorem post_closed {f : Fun} (hT : Tos f) : ∀ (N : Nat) (k : Int) (done op : List Int), (op ++ [k]).Nodup → Num f.2.2.2.1.length (op ++ [k]) → N + op.length = f.2.2.2.1.length →
    k ∈ postF f N k done op ∧ (∀ x ∈ done, x ∈ postF f N k done op) ∧ ∀ x ∈ postF f N k done op, x ∉ done → ∀ y ∈ nextF f x.toNat, y ∈ postF f N k done op ∨ y ∈ op := by
  intro N
  induction N with
  | zero =>
    intro k done op h1 h2 h3
    have := fit_len _ _ h1 h2
    simp at this
    omega
  | succ N ih =>
    intro k done op h1 h2 h3
    have key : ∀ (l out : List Int), Num f.2.2.2.1.length l → (∀ x ∈ done, x ∈ out) → (∀ x ∈ out, x ∉ done → ∀ y ∈ nextF f x.toNat, y ∈ out ∨ y ∈ op ++ [k]) →
        (∀ m ∈ l, m ∈ walkF f N (op ++ [k]) out l ∨ m ∈ op ++ [k]) ∧ (∀ x ∈ out, x ∈ walkF f N (op ++ [k]) out l) ∧ (∀ x ∈ walkF f N (op ++ [k]) out l, x ∉ done → ∀ y ∈ nextF f x.toNat, y ∈ walkF f N (op ++ [k]) out l ∨ y ∈ op ++ [k]) := by
      intro l
      induction l with
      | nil => intro out _ _ h; exact ⟨by simp, fun x hx => hx, h⟩
      | cons m l ih2 =>
        intro out hl hd hc
        have e : walkF f N (op ++ [k]) out (m :: l) = walkF f N (op ++ [k]) (stepF f N (op ++ [k]) out m) l := rfl
        rw [e]
        by_cases hm : hasL out m = true ∨ hasL (op ++ [k]) m = true
        · rw [stepF_no hm]
          obtain ⟨k1, k2, k3⟩ := ih2 out (fun x hx => hl x (by simp [hx])) hd hc
          refine ⟨fun x hx => ?_, k2, k3⟩
          rcases List.mem_cons.1 hx with rfl | hx
          · rcases hm with hm | hm
            · exact .inl (k2 _ (hasL_mem.1 hm))
            · exact .inr (hasL_mem.1 hm)
          · exact k1 x hx
        · have hc1 : hasL out m = false := by simpa using fun e => hm (.inl e)
          have hc2 : hasL (op ++ [k]) m = false := by simpa using fun e => hm (.inr e)
          rw [stepF_yes hc1 hc2]
          have hnd : (op ++ [k] ++ [m]).Nodup := List.nodup_append.2 ⟨h1, by simp, by rintro x hx y hy rfl; simp at hy; subst hy; exact hasL_no.1 hc2 hx⟩
          have hnu : Num f.2.2.2.1.length (op ++ [k] ++ [m]) := by
            intro x hx
            rcases List.mem_append.1 hx with hx | hx
            · exact h2 x hx
            · simp at hx; subst hx; exact hl x (by simp)
          obtain ⟨j1, j2, j3⟩ := ih m out (op ++ [k]) hnd hnu (by simp; omega)
          obtain ⟨k1, k2, k3⟩ := ih2 (postF f N m out (op ++ [k])) (fun x hx => hl x (by simp [hx])) (fun x hx => j2 x (hd x hx)) (by
            intro x hx hxd y hy
            by_cases hxo : x ∈ out
            · rcases hc x hxo hxd y hy with q | q
              · exact .inl (j2 y q)
              · exact .inr q
            · exact j3 x hx hxo y hy)
          refine ⟨fun x hx => ?_, fun x hx => k2 x (j2 x hx), k3⟩
          rcases List.mem_cons.1 hx with rfl | hx
          · exact .inl (k2 _ j1)
          · exact k1 x hx
    obtain ⟨k1, k2, k3⟩ := key (nextF f k.toNat) done (hT _) (fun x hx => hx) (fun x hx hn => absurd hx hn)
    rw [postF_succ]
    refine ⟨by simp, fun x hx => by simp [k2 x hx], fun x hx hxd y hy => ?_⟩
    have fin : y ∈ walkF f N (op ++ [k]) done (nextF f k.toNat) ∨ y ∈ op ++ [k] → y ∈ walkF f N (op ++ [k]) done (nextF f k.toNat) ++ [k] ∨ y ∈ op := by
      rintro (q | q)
      · exact .inl (by simp [q])
      · rcases List.mem_append.1 q with q | q
        · exact .inr q
        · exact .inl (by simp at q; simp [q])
    rcases List.mem_append.1 hx with hx | hx
    · exact fin (k3 x hx hxd y hy)
    · simp at hx
      subst hx
      exact fin (k1 y hy)
theorem next_getD {f : Fun} {b : Int} (h : b.toNat < f.2.2.2.1.length) : (succsF f).getD b.toNat [] = nextF f b.toNat := by
  rw [List.getD_eq_getElem?_getD, succsF_at h]; rfl
theorem gr_succs {f : Fun} (hT : Tos f) (h0 : 0 < f.2.2.2.1.length) : Gr (succsF f) := by
  refine ⟨fun l hl => ?_, by rw [succsF_len]; exact h0⟩
  obtain ⟨K, hK, rfl⟩ := List.mem_iff_getElem.1 hl
  have hK2 : K < f.2.2.2.1.length := by rw [← succsF_len]; exact hK
  have e := succsF_at hK2
  rw [List.getElem?_eq_getElem hK] at e
  injection e with e
  rw [e, succsF_len]
  exact hT K
theorem all_next {f : Fun} (hT : Tos f) (h0 : 0 < f.2.2.2.1.length) {x m : Int} (h : All (succsF f) x) (hm : m ∈ nextF f x.toNat) : All (succsF f) m := by
  have hx := h.num (gr_succs hT h0)
  rw [succsF_len] at hx
  refine h.step (by rw [next_getD (by omega)]; exact hm) ?_
  have := hT _ m hm
  omega
theorem mem_order {f : Fun} (hT : Tos f) (h0 : 0 < f.2.2.2.1.length) (m : Int) : m ∈ orderF f ↔ All (succsF f) m := by
  unfold orderF
  rw [List.mem_reverse]
  constructor
  · exact post_all (f := f) (Q := All (succsF f)) (fun x m hx hm => all_next hT h0 hx hm) _ 0 [] [] (All.first _) (by simp) m
  · obtain ⟨h1, _, h3⟩ := post_closed hT f.2.2.2.1.length 0 [] [] (by simp) (fun m hm => by simp at hm; subst hm; omega) (by simp)
    refine Rch.rec' (fun x hx _ => ?_) (fun b c hb hm hc _ => ?_) m
    · simp at hx; subst hx; exact h1
    · have hx := All.num (gr_succs hT h0) hb
      rw [succsF_len] at hx
      rw [next_getD (by omega)] at hc
      rcases h3 b hm (by simp) c hc with q | q
      · exact q
      · simp at q
/-- Where a block stands is where the order has it. -/
theorem at_order {f : Fun} (hT : Tos f) (h0 : 0 < f.2.2.2.1.length) {i : Nat} {b : Int} (h : (orderF f)[i]? = some b) : atF f b = i :=
  (placeL_yes (take_fresh (order_num hT h0).1 h) h).symm
theorem at_all {f : Fun} (hT : Tos f) (h0 : 0 < f.2.2.2.1.length) (b : Int) : All (succsF f) b ↔ 0 ≤ atF f b := by
  rw [← mem_order hT h0]
  constructor
  · intro h
    obtain ⟨i, hi, rfl⟩ := List.mem_iff_getElem.1 h
    rw [at_order hT h0 (List.getElem?_eq_getElem hi)]
    omega
  · intro h
    refine Classical.byContradiction fun e => ?_
    have := placeL_no (l := orderF f) (hasL_no.2 e)
    unfold atF at h
    omega
/-- An order of the blocks that are reached: the first one first, each other one behind one that goes to it. -/
def Ord (ll : List (List Int)) (pl : Int → Int) : Prop := (∀ b, All ll b ↔ 0 ≤ pl b) ∧ (∀ a b, All ll a → All ll b → pl a = pl b → a = b) ∧ pl 0 = 0 ∧
  ∀ b, All ll b → b ≠ 0 → ∃ p, All ll p ∧ b ∈ ll.getD p.toNat [] ∧ pl p < pl b
theorem ord_of {f : Fun} (hT : Tos f) (h0 : 0 < f.2.2.2.1.length) : Ord (succsF f) (atF f) := by
  have idx : ∀ b, All (succsF f) b → ∃ i : Nat, (orderF f)[i]? = some b ∧ atF f b = i := by
    intro b hb
    obtain ⟨i, hi, e⟩ := List.mem_iff_getElem.1 ((mem_order hT h0 b).2 hb)
    have h : (orderF f)[i]? = some b := by rw [List.getElem?_eq_getElem hi, e]
    exact ⟨i, h, at_order hT h0 h⟩
  obtain ⟨out, hp, he⟩ := post_par (f := f) f.2.2.2.1.length 0 [] []
  have he1 : postF f f.2.2.2.1.length 0 [] [] = out ++ [0] := by
    rcases he with e | e
    · exact e
    · have := (post_closed hT f.2.2.2.1.length 0 [] [] (by simp) (fun m hm => by simp at hm; subst hm; omega) (by simp)).1
      rw [e] at this
      simp at this
  have hord : orderF f = 0 :: out.reverse := by unfold orderF; rw [he1]; simp
  have hz : atF f 0 = 0 := at_order hT h0 (i := 0) (by rw [hord]; rfl)
  refine ⟨at_all hT h0, fun a b ha hb e => ?_, hz, fun b hb hne => ?_⟩
  · obtain ⟨i, h1, h2⟩ := idx a ha
    obtain ⟨j, k1, k2⟩ := idx b hb
    have : i = j := by omega
    subst this
    rw [h1] at k1
    injection k1
  · obtain ⟨e, hee, hpar⟩ := hp
    have hee2 : e = out := by simpa using hee.symm
    subst hee2
    have hbe : b ∈ e := by
      have := (mem_order hT h0 b).2 hb
      rw [hord] at this
      rcases List.mem_cons.1 this with q | q
      · exact absurd q hne
      · simpa using q
    have back : ∀ (x y : Int) (a c : List Int), e ++ [0] = a ++ c → y ∈ a → x ∈ c → y ∈ nextF f x.toNat → ∃ p, All (succsF f) p ∧ y ∈ (succsF f).getD p.toNat [] ∧ atF f p < atF f y := by
      intro x y a c hac hy hx hyx
      have ho : orderF f = c.reverse ++ a.reverse := by
        have : orderF f = (e ++ [0]).reverse := by rw [hord]; simp
        rw [this, hac]; simp
      have hxo : x ∈ orderF f := by rw [ho]; simp [hx]
      have hxa := (mem_order hT h0 x).1 hxo
      have hn := hxa.num (gr_succs hT h0)
      rw [succsF_len] at hn
      refine ⟨x, hxa, by rw [next_getD (by omega)]; exact hyx, ?_⟩
      obtain ⟨i, hi, ei⟩ := List.mem_iff_getElem.1 (List.mem_reverse.2 hx)
      obtain ⟨j, hj, ej⟩ := List.mem_iff_getElem.1 (List.mem_reverse.2 hy)
      have q1 : (orderF f)[i]? = some x := by rw [ho, List.getElem?_append_left hi, List.getElem?_eq_getElem hi, ei]
      have q2 : (orderF f)[c.reverse.length + j]? = some y := by
        rw [ho, List.getElem?_append_right (by omega), Nat.add_sub_cancel_left, List.getElem?_eq_getElem hj, ej]
      rw [at_order hT h0 q1, at_order hT h0 q2]
      omega
    rcases hpar b hbe with q | ⟨x, a, c, hac, q2, q3, q4⟩
    · exact back 0 b e [0] rfl hbe (by simp) q
    · exact back x b a (c ++ [0]) (by rw [hac]; simp) q2 (by simp [q3]) q4
end Go.Proofs.Ytnlcpfijfjbgjaa
namespace Go.Proofs.Ytnlcpfijfjbgjaa
open Go Go.RowKit
open G (Tok Er Ins Fun)
/-- So many steps up. -/
def ChN (g : Int → Int) : Nat → Int → Int → Prop
  | 0, a, b => a = b
  | n + 1, a, b => g b ≠ -1 ∧ ChN g n a (g b)
/-- On the way up. -/
def Ch (g : Int → Int) (a b : Int) : Prop := ∃ n, ChN g n a b
theorem Ch.refl (g : Int → Int) (a : Int) : Ch g a a := ⟨0, rfl⟩
theorem Ch.up {g : Int → Int} {a b : Int} (h : g b ≠ -1) (k : Ch g a (g b)) : Ch g a b := by
  obtain ⟨n, k⟩ := k
  exact ⟨n + 1, h, k⟩
theorem Ch.cases {g : Int → Int} {a b : Int} (h : Ch g a b) : a = b ∨ (g b ≠ -1 ∧ Ch g a (g b)) := by
  obtain ⟨n, h⟩ := h
  cases n with
  | zero => exact .inl h
  | succ n => exact .inr ⟨h.1, n, h.2⟩
/-- It is known of a block that it is reached. -/
def Know (ll : List (List Int)) (g : Int → Int) (x : Int) : Prop := All ll x ∧ (x = 0 ∨ g x ≠ -1)
/-- What is known goes up in the order. -/
def Wf (ll : List (List Int)) (pl g : Int → Int) : Prop := g 0 = -1 ∧ (∀ x, ¬ All ll x → g x = -1) ∧ ∀ x, g x ≠ -1 → All ll x ∧ Know ll g (g x) ∧ pl (g x) < pl x
theorem Ch.le {ll : List (List Int)} {pl g : Int → Int} (hw : Wf ll pl g) {a b : Int} (h : Ch g a b) : a = b ∨ pl a < pl b := by
  have key : ∀ n a b, ChN g n a b → a = b ∨ pl a < pl b := by
    intro n
    induction n with
    | zero => intro a b h; exact .inl h
    | succ n ih =>
      rintro a b ⟨h1, h2⟩
      have h3 := (hw.2.2 b h1).2.2
      rcases ih a (g b) h2 with rfl | h4
      · exact .inr h3
      · exact .inr (by omega)
  obtain ⟨n, h⟩ := h
  exact key n a b h
theorem Ch.ple {ll : List (List Int)} {pl g : Int → Int} (hw : Wf ll pl g) {a b : Int} (h : Ch g a b) : pl a ≤ pl b := by
  rcases h.le hw with rfl | h
  · exact Int.le_refl _
  · omega
theorem Ch.know {ll : List (List Int)} {pl g : Int → Int} (hw : Wf ll pl g) {a b : Int} (h : Ch g a b) (hb : Know ll g b) : Know ll g a := by
  have key : ∀ n a b, ChN g n a b → Know ll g b → Know ll g a := by
    intro n
    induction n with
    | zero => rintro a b rfl h; exact h
    | succ n ih =>
      rintro a b ⟨h1, h2⟩ _
      exact ih a (g b) h2 (hw.2.2 b h1).2.1
  obtain ⟨n, h⟩ := h
  exact key n a b h hb
theorem Ch.zero {ll : List (List Int)} {pl g : Int → Int} (hw : Wf ll pl g) {z : Int} (h : Ch g z 0) : z = 0 := by
  rcases h.cases with h | ⟨h, _⟩
  · exact h
  · exact absurd hw.1 h
theorem Know.pl0 {ll : List (List Int)} {pl g : Int → Int} (ho : Ord ll pl) {x : Int} (h : Know ll g x) : 0 ≤ pl x := (ho.1 x).1 h.1
theorem Ch.iff {g : Int → Int} {b : Int} (h : g b ≠ -1) (z : Int) : Ch g z b ↔ z = b ∨ Ch g z (g b) := by
  constructor
  · intro k
    rcases k.cases with e | e
    · exact .inl e
    · exact .inr e.2
  · rintro (rfl | k)
    · exact Ch.refl _ _
    · exact Ch.up h k
/-- Two ways up: the later one goes up. -/
theorem meet_step {ll : List (List Int)} {pl g : Int → Int} (ho : Ord ll pl) (hw : Wf ll pl g) {a b : Int} (ha : Know ll g a) (hb : Know ll g b) (h : pl b < pl a) :
    g a ≠ -1 ∧ Know ll g (g a) ∧ pl (g a) < pl a ∧ ∀ z, (Ch g z a ∧ Ch g z b) ↔ (Ch g z (g a) ∧ Ch g z b) := by
  have hga : g a ≠ -1 := by
    rcases ha.2 with rfl | h1
    · have := hb.pl0 ho; have := ho.2.2.1; omega
    · exact h1
  obtain ⟨_, k2, k3⟩ := hw.2.2 a hga
  refine ⟨hga, k2, k3, fun z => ?_⟩
  rw [Ch.iff hga]
  constructor
  · rintro ⟨rfl | h1, h2⟩
    · have := h2.ple hw; omega
    · exact ⟨h1, h2⟩
  · rintro ⟨h1, h2⟩
    exact ⟨.inr h1, h2⟩
/-- The last one on the ways up from all of some blocks. -/
def Sh (ll : List (List Int)) (g : Int → Int) (l : List Int) (x : Int) : Prop := (x = -1 ∧ ∀ p ∈ l, ¬ Know ll g p) ∨ (Know ll g x ∧ (∃ p ∈ l, Know ll g p) ∧ ∀ z, Ch g z x ↔ ∀ p ∈ l, Know ll g p → Ch g z p)
theorem Sh.nil (ll : List (List Int)) (g : Int → Int) : Sh ll g [] (-1) := .inl ⟨rfl, by simp⟩
theorem Know.ne {ll : List (List Int)} (h : Gr ll) {g : Int → Int} {x : Int} (k : Know ll g x) : x ≠ -1 := by have := k.1.num h; omega
theorem Sh.no {ll : List (List Int)} {g : Int → Int} {l : List Int} {x b : Int} (h : Sh ll g l x) (hb : ¬ Know ll g b) : Sh ll g (l ++ [b]) x := by
  rcases h with ⟨h1, h2⟩ | ⟨h1, ⟨p, h2, h3⟩, h4⟩
  · refine .inl ⟨h1, fun p hp => ?_⟩
    rcases List.mem_append.1 hp with hp | hp
    · exact h2 p hp
    · simp at hp; subst hp; exact hb
  · refine .inr ⟨h1, ⟨p, by simp [h2], h3⟩, fun z => ?_⟩
    rw [h4]
    constructor
    · intro h p hp hk
      rcases List.mem_append.1 hp with hp | hp
      · exact h p hp hk
      · simp at hp; subst hp; exact absurd hk hb
    · intro h p hp
      exact h p (by simp [hp])
theorem Sh.first {ll : List (List Int)} (hg : Gr ll) {g : Int → Int} {l : List Int} {b : Int} (h : Sh ll g l (-1)) (hb : Know ll g b) : Sh ll g (l ++ [b]) b := by
  rcases h with ⟨_, h2⟩ | ⟨h1, _⟩
  · refine .inr ⟨hb, ⟨b, by simp, hb⟩, fun z => ⟨fun hz p hp hk => ?_, fun hz => hz b (by simp) hb⟩⟩
    rcases List.mem_append.1 hp with hp | hp
    · exact absurd hk (h2 p hp)
    · simp at hp; subst hp; exact hz
  · exact absurd rfl (h1.ne hg)
theorem Sh.more {ll : List (List Int)} {g : Int → Int} {l : List Int} {x b c : Int} (h : Sh ll g l x) (hx : x ≠ -1) (hb : Know ll g b) (hc : Know ll g c) (hz : ∀ z, Ch g z c ↔ (Ch g z x ∧ Ch g z b)) : Sh ll g (l ++ [b]) c := by
  rcases h with ⟨h1, _⟩ | ⟨h1, ⟨p, h2, h3⟩, h4⟩
  · exact absurd h1 hx
  · refine .inr ⟨hc, ⟨p, by simp [h2], h3⟩, fun z => ?_⟩
    rw [hz, h4]
    constructor
    · rintro ⟨k1, k2⟩ p hp hk
      rcases List.mem_append.1 hp with hp | hp
      · exact k1 p hp hk
      · simp at hp; subst hp; exact k2
    · intro k
      exact ⟨fun p hp => k p (by simp [hp]), k b (by simp) hb⟩
theorem Sh.known {ll : List (List Int)} {g : Int → Int} {l : List Int} {x : Int} (h : Sh ll g l x) (hx : x ≠ -1) : Know ll g x := by
  rcases h with ⟨h1, _⟩ | ⟨h1, _⟩
  · exact absurd h1 hx
  · exact h1
/-- A way from the first block of so many steps, not by way of one, at most so many of them not forward in the order. -/
def WayK (ll : List (List Int)) (pl : Int → Int) (z : Int) : Nat → Nat → Int → Prop
  | 0, _, m => m = 0 ∧ m ≠ z
  | n + 1, k, m => ∃ b, m ∈ ll.getD b.toNat [] ∧ m ≠ z ∧ ((pl b < pl m ∧ WayK ll pl z n k b) ∨ ∃ k', k = k' + 1 ∧ WayK ll pl z n k' b)
theorem WayK.mono {ll : List (List Int)} {pl : Int → Int} {z : Int} : ∀ n k m, WayK ll pl z n k m → ∀ K, k ≤ K → WayK ll pl z n K m := by
  intro n
  induction n with
  | zero => intro k m h K _; exact h
  | succ n ih =>
    rintro k m ⟨b, h1, h2, h3⟩ K hK
    refine ⟨b, h1, h2, ?_⟩
    rcases h3 with ⟨h3, h4⟩ | ⟨k', rfl, h4⟩
    · exact .inl ⟨h3, ih k b h4 K hK⟩
    · exact .inr ⟨K - 1, by omega, ih k' b h4 _ (by omega)⟩
theorem WayK.rch {ll : List (List Int)} {pl : Int → Int} {z : Int} : ∀ n k m, WayK ll pl z n k m → Rch ll [0] z m := by
  intro n
  induction n with
  | zero => rintro k m ⟨rfl, h⟩; exact Rch.start (by simp) h
  | succ n ih =>
    rintro k m ⟨b, h1, h2, h3⟩
    rcases h3 with ⟨_, h4⟩ | ⟨k', _, h4⟩
    · exact (ih k b h4).step h1 h2
    · exact (ih k' b h4).step h1 h2
theorem WayK.of {ll : List (List Int)} (pl : Int → Int) {z m : Int} (h : Rch ll [0] z m) : ∃ n k, WayK ll pl z n k m := by
  have key : ∀ n m, WayN ll [0] z n m → WayK ll pl z n n m := by
    intro n
    induction n with
    | zero => rintro m ⟨h1, h2⟩; exact ⟨by simpa using h1, h2⟩
    | succ n ih =>
      rintro m ⟨b, h1, h2, h3⟩
      exact ⟨b, h2, h3, .inr ⟨n, rfl, ih b h1⟩⟩
  obtain ⟨n, h⟩ := h
  exact ⟨n, n, key n m h⟩
/-- A way goes by a block, or not. -/
theorem WayK.part {ll : List (List Int)} {pl : Int → Int} {z : Int} (a : Int) : ∀ n k m, WayK ll pl z n k m → WayK ll pl a n k m ∨ ∃ n', WayK ll pl z n' k a := by
  intro n
  induction n with
  | zero =>
    rintro k m ⟨rfl, h⟩
    by_cases e : a = 0
    · subst e; exact .inr ⟨0, rfl, h⟩
    · exact .inl ⟨rfl, fun e2 => e e2.symm⟩
  | succ n ih =>
    intro k m hm
    by_cases e : m = a
    · subst e; exact .inr ⟨n + 1, hm⟩
    · obtain ⟨b, h1, h2, h3⟩ := hm
      rcases h3 with ⟨h3, h4⟩ | ⟨k', rfl, h4⟩
      · rcases ih k b h4 with q | q
        · exact .inl ⟨b, h1, e, .inl ⟨h3, q⟩⟩
        · exact .inr q
      · rcases ih k' b h4 with q | ⟨n', q⟩
        · exact .inl ⟨b, h1, e, .inr ⟨k', rfl, q⟩⟩
        · exact .inr ⟨n', WayK.mono _ _ _ q _ (by omega)⟩
/-- Who stands ahead of a block, but it, stands ahead of what is known to be the last one. -/
def Dd (ll : List (List Int)) (g : Int → Int) : Prop := ∀ x y, g x ≠ -1 → Ahd ll y x → y ≠ x → Ahd ll y (g x)
/-- Who is missed by a way with fewer steps back than so many is not on the way up. -/
def Mis (ll : List (List Int)) (pl : Int → Int) (r : Nat) (g : Int → Int) : Prop := ∀ d z n k, All ll d → k < r → WayK ll pl z n k d → ¬ Ch g z d
/-- What so many rounds leave. -/
def Rd (ll : List (List Int)) (pl : Int → Int) (r : Nat) (g : Int → Int) : Prop := Wf ll pl g ∧ (0 < r → ∀ x, All ll x → x ≠ 0 → g x ≠ -1) ∧ Dd ll g ∧ Mis ll pl r g
/-- Within a round. -/
def Mrd (ll : List (List Int)) (pl : Int → Int) (r i : Nat) (old g : Int → Int) : Prop := Wf ll pl g ∧ (∀ x, All ll x → x ≠ 0 → pl x < i ∨ 0 < r → g x ≠ -1) ∧ Dd ll g ∧ (∀ x, All ll x → (i : Int) ≤ pl x → g x = old x) ∧
  (∀ d z n k, All ll d → pl d < i → k ≤ r → WayK ll pl z n k d → ¬ Ch g z d) ∧ Mis ll pl r old
theorem Mrd.start {ll : List (List Int)} {pl : Int → Int} (ho : Ord ll pl) {r : Nat} {g : Int → Int} (h : Rd ll pl r g) : Mrd ll pl r 0 g g := by
  refine ⟨h.1, fun x hx h0 hr => ?_, h.2.2.1, fun _ _ _ => rfl, fun d z n k hd hp => ?_, h.2.2.2⟩
  · rcases hr with hr | hr
    · have := (ho.1 x).1 hx; omega
    · exact h.2.1 hr x hx h0
  · have := (ho.1 d).1 hd; omega
theorem Mrd.zero {ll : List (List Int)} {pl : Int → Int} (ho : Ord ll pl) {r : Nat} {old g : Int → Int} (h : Mrd ll pl r 0 old g) : Mrd ll pl r 1 old g := by
  have hz : ∀ x, All ll x → pl x < (1 : Nat) → x = 0 := by
    intro x hx hp
    have h1 := (ho.1 x).1 hx
    have h2 := ho.2.2.1
    exact ho.2.1 x 0 hx (All.first _) (by omega)
  refine ⟨h.1, fun x hx h0 hr => ?_, h.2.2.1, fun x hx hp => h.2.2.2.1 x hx (by omega), fun d z n k hd hp hk hway hc => ?_, h.2.2.2.2.2⟩
  · rcases hr with hr | hr
    · exact absurd (hz x hx hr) h0
    · exact h.2.1 x hx h0 (.inr hr)
  · obtain rfl := hz d hd hp
    have := hc.zero h.1
    subst this
    exact (WayK.rch n k 0 hway).ne rfl
theorem Mrd.done {ll : List (List Int)} {pl : Int → Int} {r n : Nat} {old g : Int → Int} (h : Mrd ll pl r n old g) (hn : ∀ x, All ll x → pl x < n) : Rd ll pl (r + 1) g :=
  ⟨h.1, fun _ x hx h0 => h.2.1 x hx h0 (.inl (hn x hx)), h.2.2.1, fun d z m k hd hk hw => h.2.2.2.2.1 d z m k hd (hn d hd) (by omega) hw⟩
theorem Ahd.pred {ll : List (List Int)} {y b p : Int} (h : Ahd ll y b) (hne : y ≠ b) (hp : All ll p) (hb : b ∈ ll.getD p.toNat []) : Ahd ll y p := by
  refine ⟨h.1, hp, ?_⟩
  right
  intro hr
  exact (h.2.2.resolve_left hne) (hr.step hb (fun e => hne e.symm))
theorem Dd.ch {ll : List (List Int)} {pl g : Int → Int} (hw : Wf ll pl g) (hd : Dd ll g) : ∀ (N : Nat) (y d : Int), pl d < N → 0 ≤ pl d → Know ll g d → Ord ll pl → Ahd ll y d → Ch g y d := by
  intro N
  induction N with
  | zero => intro y d h1 h2; omega
  | succ N ih =>
    intro y d h1 h2 hk ho ha
    by_cases e : y = d
    · subst e; exact Ch.refl _ _
    · have h0 : d ≠ 0 := by
        rintro rfl
        exact e (ha.anti (Ahd.first ha.1))
      have hg : g d ≠ -1 := hk.2.resolve_left h0
      obtain ⟨_, k2, k3⟩ := hw.2.2 d hg
      exact Ch.up hg (ih y (g d) (by omega) (k2.pl0 ho) k2 ho (hd d y hg ha e))
theorem Dd.climb {ll : List (List Int)} {pl g : Int → Int} (hw : Wf ll pl g) (hd : Dd ll g) {x y p : Int} (h : Ch g x p) (ha : Ahd ll y p) (hp : pl y ≤ pl x) : Ahd ll y x := by
  have key : ∀ n p, ChN g n x p → Ahd ll y p → Ahd ll y x := by
    intro n
    induction n with
    | zero => rintro p rfl h; exact h
    | succ n ih =>
      rintro p ⟨h1, h2⟩ ha
      refine ih (g p) h2 (hd p y h1 ha ?_)
      rintro rfl
      have := (hw.2.2 y h1).2.2
      have := Ch.ple hw ⟨n, h2⟩
      omega
  obtain ⟨n, h⟩ := h
  exact key n p h ha
/-- A block's last one ahead is told anew. -/
def upd (g : Int → Int) (b x : Int) : Int → Int := fun y => if y = b then x else g y
theorem upd_at (g : Int → Int) (b x : Int) : upd g b x b = x := if_pos rfl
theorem upd_ne (g : Int → Int) {b x y : Int} (h : y ≠ b) : upd g b x y = g y := if_neg h
theorem Ch.upd_low {ll : List (List Int)} {pl g : Int → Int} (hw : Wf ll pl g) {b x d z : Int} (h : pl d < pl b) : Ch (upd g b x) z d ↔ Ch g z d := by
  have key : ∀ n d, pl d < pl b → (ChN (upd g b x) n z d ↔ ChN g n z d) := by
    intro n
    induction n with
    | zero => intro d _; exact Iff.rfl
    | succ n ih =>
      intro d h
      have e : upd g b x d = g d := upd_ne g (by rintro rfl; omega)
      show (upd g b x d ≠ -1 ∧ ChN (upd g b x) n z (upd g b x d)) ↔ (g d ≠ -1 ∧ ChN g n z (g d))
      rw [e]
      constructor
      · rintro ⟨h1, h2⟩
        exact ⟨h1, (ih _ (by have := (hw.2.2 d h1).2.2; omega)).1 h2⟩
      · rintro ⟨h1, h2⟩
        exact ⟨h1, (ih _ (by have := (hw.2.2 d h1).2.2; omega)).2 h2⟩
  exact ⟨fun ⟨n, k⟩ => ⟨n, (key n d h).1 k⟩, fun ⟨n, k⟩ => ⟨n, (key n d h).2 k⟩⟩
theorem Ch.cross {ll : List (List Int)} {pl g old : Int → Int} (hw : Wf ll pl g) {i : Nat} (hs : ∀ x, All ll x → (i : Int) ≤ pl x → g x = old x) {z p : Int} (h : Ch g z p) (hp : All ll p) (hz : pl z < i) :
    ∃ a, All ll a ∧ pl a < i ∧ Ch g z a ∧ Ch old a p := by
  have key : ∀ n p, ChN g n z p → All ll p → ∃ a, All ll a ∧ pl a < i ∧ Ch g z a ∧ Ch old a p := by
    intro n
    induction n with
    | zero =>
      rintro p rfl h
      exact ⟨z, h, hz, Ch.refl _ _, Ch.refl _ _⟩
    | succ n ih =>
      intro p h hp
      by_cases e : pl p < i
      · exact ⟨p, hp, e, ⟨n + 1, h⟩, Ch.refl _ _⟩
      · obtain ⟨h1, h2⟩ := h
        obtain ⟨a, k1, k2, k3, k4⟩ := ih (g p) h2 (hw.2.2 p h1).2.1.1
        have e2 := hs p hp (by omega)
        exact ⟨a, k1, k2, k3, Ch.up (by rw [← e2]; exact h1) (by rw [← e2]; exact k4)⟩
  obtain ⟨n, h⟩ := h
  exact key n p h hp
/-- A block's turn within a round. -/
theorem Mrd.step {ll : List (List Int)} (hg : Gr ll) {pl : Int → Int} (ho : Ord ll pl) {r i : Nat} {old g : Int → Int} (h : Mrd ll pl r i old g) {b x : Int} {l : List Int} (hb : All ll b) (h0 : b ≠ 0) (hp : pl b = i)
    (hl : ∀ p, p ∈ l ↔ (0 ≤ p ∧ p < ll.length ∧ b ∈ ll.getD p.toNat [])) (hs : Sh ll g l x) : Mrd ll pl r (i + 1) old (upd g b x) := by
  obtain ⟨hw, hk, hd, hsame, hmis, hold⟩ := h
  have inl : ∀ p, All ll p → b ∈ ll.getD p.toNat [] → p ∈ l := fun p hp hm => (hl p).2 ⟨(hp.num hg).1, (hp.num hg).2, hm⟩
  obtain ⟨p0, q1, q2, q3⟩ := ho.2.2.2 b hb h0
  have kn : ∀ p, All ll p → pl p < i ∨ 0 < r → Know ll g p := fun p hp hi => ⟨hp, by
    by_cases e : p = 0
    · exact .inl e
    · exact .inr (hk p hp e hi)⟩
  have kp0 : Know ll g p0 := kn p0 q1 (.inl (by omega))
  rcases hs with ⟨_, hs2⟩ | ⟨kx, _, hz⟩
  · exact absurd kp0 (hs2 p0 (inl p0 q1 q2))
  have cx0 : Ch g x p0 := (hz x).1 (Ch.refl _ _) p0 (inl p0 q1 q2) kp0
  have hxi : pl x < i := by have := cx0.ple hw; omega
  have hxb : x ≠ b := by rintro rfl; omega
  have kmono : ∀ y, Know ll g y → Know ll (upd g b x) y := by
    intro y hy
    refine ⟨hy.1, hy.2.imp id fun e => ?_⟩
    by_cases eb : y = b
    · subst eb; rw [upd_at]; exact kx.ne hg
    · rw [upd_ne g eb]; exact e
  refine ⟨⟨?_, ?_, ?_⟩, ?_, ?_, ?_, ?_, hold⟩
  · rw [upd_ne g (fun e => h0 e.symm)]; exact hw.1
  · intro y hy
    rw [upd_ne g (by rintro rfl; exact hy hb)]
    exact hw.2.1 y hy
  · intro y hy
    by_cases eb : y = b
    · subst eb
      rw [upd_at]
      exact ⟨hb, kmono x kx, by omega⟩
    · rw [upd_ne g eb] at hy ⊢
      obtain ⟨k1, k2, k3⟩ := hw.2.2 y hy
      exact ⟨k1, kmono _ k2, k3⟩
  · intro y hy hy0 hi
    by_cases eb : y = b
    · subst eb; rw [upd_at]; exact kx.ne hg
    · rw [upd_ne g eb]
      refine hk y hy hy0 ?_
      rcases hi with hi | hi
      · left
        refine Classical.byContradiction fun e => eb (ho.2.1 y b hy hb ?_)
        have : pl y < ((i + 1 : Nat) : Int) := hi
        omega
      · exact .inr hi
  · intro v y hv ha hne
    by_cases eb : v = b
    · subst eb
      rw [upd_at]
      have hin : ∀ p, All ll p → v ∈ ll.getD p.toNat [] → Know ll g p → Ch g y p := fun p hp hm hkp => Dd.ch hw hd ((pl p).toNat + 1) y p (by have := hkp.pl0 ho; omega) (hkp.pl0 ho) hkp ho (ha.pred hne hp hm)
      have cy : Ch g y x := (hz y).2 (fun p hpl hkp => hin p hkp.1 ((hl p).1 hpl).2.2 hkp)
      exact Dd.climb hw hd cx0 (ha.pred hne q1 q2) (cy.ple hw)
    · rw [upd_ne g eb] at hv ⊢
      exact hd v y hv ha hne
  · intro y hy hi
    rw [upd_ne g (by rintro rfl; omega)]
    exact hsame y hy (by omega)
  · intro d z n k hda hdi hkr hway hc
    by_cases eb : d = b
    · subst eb
      cases n with
      | zero => exact h0 hway.1
      | succ n =>
        obtain ⟨p, h1, h2, h3⟩ := hway
        have hcx : Ch g z x := by
          rcases hc.cases with e | ⟨_, e⟩
          · exact absurd e.symm h2
          · rw [upd_at] at e
            exact (Ch.upd_low hw (by omega)).1 e
        rcases h3 with ⟨h3, h4⟩ | ⟨k', rfl, h4⟩
        · have hpa := (WayK.rch _ _ _ h4).all hg.1
          exact hmis p z n k hpa (by omega) hkr h4 ((hz z).1 hcx p (inl p hpa h1) (kn p hpa (.inl (by omega))))
        · have hpa := (WayK.rch _ _ _ h4).all hg.1
          have hcp := (hz z).1 hcx p (inl p hpa h1) (kn p hpa (.inr (by omega)))
          obtain ⟨a, a1, a2, a3, a4⟩ := hcp.cross hw hsame hpa (by have := hcx.ple hw; omega)
          rcases WayK.part a n k' p h4 with q | ⟨n', q⟩
          · exact hold p a n k' hpa (by omega) q a4
          · exact hmis a z n' k' a1 a2 (by omega) q a3
    · have hdi2 : pl d < i := by
        refine Classical.byContradiction fun e => eb (ho.2.1 d b hda hb ?_)
        have : pl d < ((i + 1 : Nat) : Int) := hdi
        omega
      exact hmis d z n k hda hdi2 hkr hway ((Ch.upd_low hw (by omega)).1 hc)
/-- Nobody on the way up is missed by any way: then it is what is asked. -/
theorem exact_of {ll : List (List Int)} (hg : Gr ll) {pl g : Int → Int} (hw : Wf ll pl g) (hk : ∀ x, All ll x → x ≠ 0 → g x ≠ -1) (hd : Dd ll g) (hm : ∀ d z, All ll d → Rch ll [0] z d → ¬ Ch g z d) (b : Int) : g b = upB ll b := by
  by_cases hb : All ll b
  · by_cases h0 : b = 0
    · subst h0
      rw [hw.1]
      exact (upB_no hg fun a => IsUp.not_first).symm
    · have h1 := hk b hb h0
      obtain ⟨_, k2, k3⟩ := hw.2.2 b h1
      have hne : g b ≠ b := by intro e; rw [e] at k3; omega
      have hah : Ahd ll (g b) b := ⟨k2.1, hb, .inr fun hr => hm b (g b) hb hr (Ch.up h1 (Ch.refl _ _))⟩
      exact (upB_eq hg (IsUp.of_last hg hah hne (fun c hc hcb => hd b c h1 hc hcb))).symm
  · rw [hw.2.1 b hb]
    exact (upB_no hg fun a ha => hb ha.2.1.2.1).symm
theorem bound_ex {P : Nat → Nat → Prop} (hm : ∀ j k k', P j k → k ≤ k' → P j k') : ∀ m, (∀ j, j < m → ∃ k, P j k) → ∃ K, ∀ j, j < m → P j K := by
  intro m
  induction m with
  | zero => intro _; exact ⟨0, fun j h => by omega⟩
  | succ m ih =>
    intro h
    obtain ⟨K, hK⟩ := ih (fun j hj => h j (by omega))
    obtain ⟨k, hk⟩ := h m (by omega)
    refine ⟨max K k, fun j hj => ?_⟩
    by_cases e : j = m
    · subst e; exact hm _ _ _ hk (Nat.le_max_right _ _)
    · exact hm _ _ _ (hK j (by omega)) (Nat.le_max_left _ _)
/-- So many rounds are enough. -/
def Enough (ll : List (List Int)) (pl : Int → Int) (K : Nat) : Prop := ∀ d z, All ll d → All ll z → Rch ll [0] z d → ∃ n, WayK ll pl z n K d
theorem enough_ex {ll : List (List Int)} (hg : Gr ll) (pl : Int → Int) : ∃ K, Enough ll pl K := by
  obtain ⟨K, hK⟩ := bound_ex (P := fun d K => ∀ z, z < ll.length → Rch ll [0] (z : Int) (d : Int) → ∃ n, WayK ll pl (z : Int) n K (d : Int))
    (fun j k k' h hk z hz hr => by obtain ⟨n, q⟩ := h z hz hr; exact ⟨n, WayK.mono _ _ _ q _ hk⟩) ll.length (fun d _ => by
      refine bound_ex (P := fun z K => Rch ll [0] (z : Int) (d : Int) → ∃ n, WayK ll pl (z : Int) n K (d : Int)) (fun j k k' h hk hr => by obtain ⟨n, q⟩ := h hr; exact ⟨n, WayK.mono _ _ _ q _ hk⟩) ll.length (fun z _ => ?_)
      by_cases hr : Rch ll [0] (z : Int) (d : Int)
      · obtain ⟨n, k, q⟩ := WayK.of pl hr
        exact ⟨k, fun _ => ⟨n, q⟩⟩
      · exact ⟨0, fun h => absurd h hr⟩)
  refine ⟨K, fun d z hd hz hr => ?_⟩
  obtain ⟨d0, d1⟩ := hd.num hg
  obtain ⟨z0, z1⟩ := hz.num hg
  obtain ⟨D, rfl⟩ : ∃ D : Nat, d = (D : Int) := ⟨d.toNat, by omega⟩
  obtain ⟨Z, rfl⟩ : ∃ Z : Nat, z = (Z : Int) := ⟨z.toNat, by omega⟩
  exact hK D (by omega) Z (by omega) hr
theorem Rd.exact {ll : List (List Int)} (hg : Gr ll) {pl g : Int → Int} {r K : Nat} (h : Rd ll pl r g) (hK : Enough ll pl K) (hr : K < r) (b : Int) : g b = upB ll b := by
  obtain ⟨hw, hk, hd, hm⟩ := h
  refine exact_of hg hw (hk (by omega)) hd (fun d z hda hrch hc => ?_) b
  by_cases h0 : d = 0
  · subst h0
    have := hc.zero hw
    subst this
    exact hrch.ne rfl
  · have hz : All ll z := (hc.know hw ⟨hda, .inr (hk (by omega) d hda h0)⟩).1
    obtain ⟨n, q⟩ := hK d z hda hz hrch
    exact hm d z n K hda hr q hc
/-- Where a round changes nothing, nothing is missed. -/
theorem Rd.fixed {ll : List (List Int)} (hg : Gr ll) {pl g : Int → Int} {r : Nat} (h : Rd ll pl r g) (hs : ∀ r, Rd ll pl r g → Rd ll pl (r + 1) g) (b : Int) : g b = upB ll b := by
  obtain ⟨K, hK⟩ := enough_ex hg pl
  have key : ∀ n, Rd ll pl (r + n) g := by
    intro n
    induction n with
    | zero => exact h
    | succ n ih => exact hs _ ih
  exact Rd.exact hg (key (K + 1)) hK (by omega) b
theorem Rd.start {ll : List (List Int)} {pl g : Int → Int} (h : ∀ x, g x = -1) : Rd ll pl 0 g :=
  ⟨⟨h 0, fun x _ => h x, fun x hx => absurd (h x) hx⟩, fun h => by omega, fun x y hx => absurd (h x) hx, fun d z n k _ hk => by omega⟩
/-- Who stands ahead of another one stands ahead of it in the order. -/
theorem Ahd.order {ll : List (List Int)} {pl : Int → Int} (ho : Ord ll pl) {a b : Int} (h : Ahd ll a b) : a = b ∨ pl a < pl b := by
  have key : ∀ (N : Nat) (b : Int), pl b < N → Ahd ll a b → a = b ∨ pl a < pl b := by
    intro N
    induction N with
    | zero =>
      intro b hb h
      have := (ho.1 b).1 h.2.1
      omega
    | succ N ih =>
      intro b hb h
      by_cases e : a = b
      · exact .inl e
      · have h0 : b ≠ 0 := by rintro rfl; exact e (h.anti (Ahd.first h.1))
        obtain ⟨p, q1, q2, q3⟩ := ho.2.2.2 b h.2.1 h0
        rcases ih p (by omega) (h.pred e q1 q2) with rfl | q
        · exact .inr q3
        · exact .inr (by omega)
  exact key ((pl b).toNat + 1) b (by have := (ho.1 b).1 h.2.1; omega) h
end Go.Proofs.Ytnlcpfijfjbgjaa
