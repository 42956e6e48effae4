/- Layer 10: loops in memory; the reference: the loop of a head. Layer 10, the reference: which loop a loop is within. Layer 9: what a light function is; what is asked of the program's functions; the small check answers true, where these do. -/
import Derived.Test.YtmiplohoclckcaaGreatLtAN
import Derived.Test.YtmiplohoclckcaaGreatLtAY
import Derived.Test.YtmiplohoclckcaaGreatLtAZ
import Derived.RangeFuncBox
namespace Go.Proofs.YtmiplohoclckcaaGreat
open Go Go.RowKit
open G (Tok Er Ins Fun)
/-- The cells of loops, each of whose lists is of one's own. -/
def LpRow (B : Nat) (w : World) : List Lp → List Value → Prop
  | [], cs => cs = []
  | x :: l, cs => ∃ vb vk rest, cs = .int .i64 x.1 :: vb :: vk :: .int .i64 x.2.2.2 :: rest ∧ w.ownsRow B 3 1 vb x.2.1.length (ints x.2.1) ∧ w.ownsRow B 3 1 vk x.2.2.1.length (ints x.2.2.1) ∧ LpRow B w l rest
theorem LpRow.map {B B' : Nat} {w w' : World} (f : ∀ (v : Value) (n : Nat) (xs : List Value), w.ownsRow B 3 1 v n xs → w'.ownsRow B' 3 1 v n xs) : ∀ (l : List Lp) (cs : List Value), LpRow B w l cs → LpRow B' w' l cs := by
  intro l
  induction l with
  | nil => intro cs h; exact h
  | cons x l ih =>
    rintro cs ⟨vb, vk, rest, rfl, h1, h2, h3⟩
    exact ⟨vb, vk, rest, rfl, f _ _ _ h1, f _ _ _ h2, ih _ h3⟩
theorem LpRow.snoc {B : Nat} {w : World} {x : Lp} {vb vk : Value} (hb : w.ownsRow B 3 1 vb x.2.1.length (ints x.2.1)) (hk : w.ownsRow B 3 1 vk x.2.2.1.length (ints x.2.2.1)) : ∀ (l : List Lp) (cs : List Value), LpRow B w l cs → LpRow B w (l ++ [x]) (cs ++ [.int .i64 x.1, vb, vk, .int .i64 x.2.2.2]) := by
  intro l
  induction l with
  | nil => rintro cs rfl; exact ⟨vb, vk, [], rfl, hb, hk, rfl⟩
  | cons y l ih =>
    rintro cs ⟨ub, uk, rest, rfl, h1, h2, h3⟩
    exact ⟨ub, uk, _, rfl, h1, h2, ih _ h3⟩
theorem LpRow.at {B : Nat} {w : World} : ∀ (l : List Lp) (cs : List Value), LpRow B w l cs → ∀ (i : Nat) (x : Lp), l[i]? = some x → ∃ vb vk, cs[i * 4]? = some (.int .i64 x.1) ∧ cs[i * 4 + 1]? = some vb ∧ cs[i * 4 + 2]? = some vk ∧ cs[i * 4 + 3]? = some (.int .i64 x.2.2.2) ∧ w.ownsRow B 3 1 vb x.2.1.length (ints x.2.1) ∧ w.ownsRow B 3 1 vk x.2.2.1.length (ints x.2.2.1) := by
  intro l
  induction l with
  | nil => intro cs _ i x h; simp at h
  | cons y l ih =>
    rintro cs ⟨vb, vk, rest, rfl, h1, h2, h3⟩ i x hx
    cases i with
    | zero => simp at hx; subst hx; exact ⟨vb, vk, rfl, rfl, rfl, rfl, h1, h2⟩
    | succ i =>
      obtain ⟨ub, uk, k0, k1, k2, k3, k4, k5⟩ := ih rest h3 i x (by simpa using hx)
      have e : (i + 1) * 4 = i * 4 + 4 := by omega
      rw [e]
      exact ⟨ub, uk, by simpa using k0, by simpa using k1, by simpa using k2, by simpa using k3, k4, k5⟩
/-- A list of loops of one's own. -/
def LoopsO (B : Nat) (w : World) (l : List Lp) (v : Value) : Prop := ∃ cs, w.ownsRow B 36 4 v l.length cs ∧ LpRow B w l cs
theorem LoopsO.nil (B : Nat) (w : World) : LoopsO B w [] (.slice none 0 0) := ⟨[], World.ownsRow_nil _ _ _ _, rfl⟩
theorem LoopsO.below {B : Nat} {w w' : World} {l : List Lp} {v : Value} (h : LoopsO B w l v) (b : Below w.heap.size w w') : LoopsO B w' l v := by
  obtain ⟨cs, h1, h2⟩ := h
  exact ⟨cs, own_below b _ _ _ _ _ _ h1, h2.map (fun v n xs => own_below b B 3 1 v n xs) _ _⟩
theorem LoopsO.base {B B' : Nat} {w : World} {l : List Lp} {v : Value} (h : LoopsO B w l v) (hB : B' ≤ B) : LoopsO B' w l v := by
  obtain ⟨cs, h1, h2⟩ := h
  exact ⟨cs, own_base h1 hB, h2.map (fun v n xs hv => own_base hv hB) _ _⟩
theorem LoopsO.step {B : Nat} {wr w2 : World} {l : List Lp} {x : Lp} {v v' vb vk : Value} {o : Obj} (hb : wr.ownsRow B 3 1 vb x.2.1.length (ints x.2.1)) (hk : wr.ownsRow B 3 1 vk x.2.2.1.length (ints x.2.2.1))
    {cs : List Value} (hcs : wr.ownsRow B 36 4 v l.length cs) (hl : LpRow B wr l cs) (own : w2.ownsRow B 36 4 v' (l.length + 1) (cs ++ [.int .i64 x.1, vb, vk, .int .i64 x.2.2.2])) (hg : (wr.alloc o).grownBy w2 v.ownBlock) : LoopsO B w2 (l ++ [x]) v' := by
  have mv : ∀ (u : Value) (n : Nat) (xs : List Value), wr.ownsRow B 3 1 u n xs → w2.ownsRow B 3 1 u n xs := fun u n xs hu => (hu.alloc o).kept hg (own_apart hu hcs (by decide))
  refine ⟨_, by simpa using own, LpRow.snoc (mv _ _ _ hb) (mv _ _ _ hk) _ _ (hl.map mv _ _)⟩
/-- A list of loops, as it is read. -/
def LpR (w : World) (x : Lp) (g o : Nat) : Prop := g < w.heap.size ∧ ∃ vb vk, w.cell? ⟨g, o, none⟩ = some (.int .i64 x.1) ∧ w.cell? ⟨g, o + 1, none⟩ = some vb ∧ w.cell? ⟨g, o + 2, none⟩ = some vk ∧ w.cell? ⟨g, o + 3, none⟩ = some (.int .i64 x.2.2.2) ∧ IntsV w x.2.1 vb ∧ IntsV w x.2.2.1 vk
theorem LpR.below {w w' : World} {x : Lp} {g o : Nat} (h : LpR w x g o) (b : Below w.heap.size w w') : LpR w' x g o := by
  obtain ⟨h1, vb, vk, c0, c1, c2, c3, k1, k2⟩ := h
  exact ⟨Nat.lt_of_lt_of_le h1 b.size, vb, vk, (b.cell (p := ⟨g, o, none⟩) h1).trans c0, (b.cell (p := ⟨g, o + 1, none⟩) h1).trans c1, (b.cell (p := ⟨g, o + 2, none⟩) h1).trans c2, (b.cell (p := ⟨g, o + 3, none⟩) h1).trans c3, k1.below b, k2.below b⟩
def LoopsV (w : World) (l : List Lp) (v : Value) : Prop := ∃ ao c, v = .slice ao l.length c ∧ l.length ≤ c ∧ c ≤ maxLen ∧ (l = [] ∨ ∃ g o, ao = some ⟨g, o, none⟩ ∧ ∀ (i : Nat) (x : Lp), l[i]? = some x → LpR w x g (o + i * 4))
theorem LoopsV.below {w w' : World} {l : List Lp} {v : Value} (h : LoopsV w l v) (b : Below w.heap.size w w') : LoopsV w' l v := by
  obtain ⟨ao, c, e, h1, h2, h3⟩ := h
  refine ⟨ao, c, e, h1, h2, ?_⟩
  rcases h3 with h3 | ⟨g, o, e2, h4⟩
  · exact .inl h3
  · exact .inr ⟨g, o, e2, fun i x hx => (h4 i x hx).below b⟩
theorem LoopsO.read {B : Nat} {w : World} {l : List Lp} {v : Value} (h : LoopsO B w l v) : LoopsV w l v := by
  obtain ⟨cs, h1, h2⟩ := h
  rcases own_view h1 with ⟨rfl, hn⟩ | ⟨g, cap, rfl, k1, k2, k3, k4, k5, k6⟩
  · have e : l = [] := List.length_eq_zero_iff.1 hn
    subst e
    exact ⟨none, 0, rfl, Nat.le_refl _, by unfold maxLen; omega, .inl rfl⟩
  · refine ⟨_, cap, rfl, k1, k2, .inr ⟨g, 0, rfl, fun i x hx => ?_⟩⟩
    obtain ⟨vb, vk, c0, c1, c2, c3, o1, o2⟩ := LpRow.at l cs h2 i x hx
    rw [Nat.zero_add]
    exact ⟨k4, vb, vk, k5 _ _ c0, k5 _ _ c1, k5 _ _ c2, k5 _ _ c3, ints_of o1, ints_of o2⟩
/-- A loop's box under way. -/
def OneW (w : World) (q b6 bl : Nat) (fc lc : Array Value) (vb vk : Value) (bs ks : List Int) (wr : World) : Prop := wr.heap[q]? = some (.cells fc 25 (0, 0)) ∧ wr.heap[b6]? = some (.cells #[.int .i64 0, .slice none 0 0, .slice none 0 0, .int .i64 0] 36 (0, 0)) ∧ wr.heap[bl]? = some (.cells lc 36 (0, 0)) ∧
  wr.ownsRow w.heap.size 3 1 vb bs.length (ints bs) ∧ wr.ownsRow w.heap.size 3 1 vk ks.length (ints ks) ∧ Apart vb vk ∧ Below w.heap.size w wr
theorem OneW.below {w wr w2 : World} {q b6 bl : Nat} {fc lc : Array Value} {vb vk : Value} {bs ks : List Int} (h : OneW w q b6 bl fc lc vb vk bs ks wr) (b : Below wr.heap.size wr w2) : OneW w q b6 bl fc lc vb vk bs ks w2 := by
  obtain ⟨h1, h2, h3, h4, h5, h6, h7⟩ := h
  have lt : ∀ (k : Nat) (o : Obj), wr.heap[k]? = some o → k < wr.heap.size := fun k o hk => (Array.getElem?_eq_some_iff.1 hk).1
  exact ⟨(b.block q (lt _ _ h1)).trans h1, (b.block b6 (lt _ _ h2)).trans h2, (b.block bl (lt _ _ h3)).trans h3, own_below b _ _ _ _ _ _ h4, own_below b _ _ _ _ _ _ h5, h6, below_step h7 b⟩
/-- A block of another type is not a row's. -/
theorem block_far {w : World} {B e s n k t : Nat} {v : Value} {xs : List Value} {cs : Array Value} (h : w.ownsRow B e s v n xs) (hk : w.heap[k]? = some (.cells cs t (0, 0))) (hne : t ≠ e) : some k ≠ v.ownBlock := by
  rcases h.2 with ⟨rfl, _⟩ | ⟨g, cap, cur, rfl, _, hg, _⟩
  · simp [Value.ownBlock]
  · intro e2
    have : k = g := by simpa [Value.ownBlock] using e2
    subst this
    rw [hk] at hg
    injection hg with hg
    injection hg with _ q
    exact hne q
theorem four_of {w : World} {b t : Nat} {a0 a1 a2 a3 : Value} (h : w.heap[b]? = some (.cells #[a0, a1, a2, a3] t (0, 0))) : (w.cell? ⟨b, 0, none⟩ = some a0 ∧ w.cell? ⟨b, 1, none⟩ = some a1 ∧ w.cell? ⟨b, 2, none⟩ = some a2 ∧ w.cell? ⟨b, 3, none⟩ = some a3) ∧ (w.frozen? ⟨b, 0, none⟩ = false ∧ w.frozen? ⟨b, 1, none⟩ = false ∧ w.frozen? ⟨b, 2, none⟩ = false ∧ w.frozen? ⟨b, 3, none⟩ = false) ∧ b < w.heap.size := by
  have hl := (Array.getElem?_eq_some_iff.1 h).1
  refine ⟨⟨?_, ?_, ?_, ?_⟩, ⟨?_, ?_, ?_, ?_⟩, hl⟩ <;> simp [World.cell?, World.frozen?, h]
theorem box_five {w : World} {q t : Nat} {a0 a1 a2 a3 a4 : Value} (h : w.heap[q]? = some (.cells #[a0, a1, a2, a3, a4] t (0, 0))) : L5.Box w q [a0, a1, a2, a3, a4] := by
  refine ⟨(Array.getElem?_eq_some_iff.1 h).1, fun i v hi => ?_⟩
  simp only [World.cell?, h]
  simpa using hi
theorem setCell_four {w : World} {b t : Nat} {a0 a1 a2 a3 : Value} (h : w.heap[b]? = some (.cells #[a0, a1, a2, a3] t (0, 0))) (u : Value) : (w.setCell ⟨b, 1, none⟩ u).heap[b]? = some (.cells #[a0, u, a2, a3] t (0, 0)) := by
  obtain ⟨hlt, hk⟩ := Array.getElem?_eq_some_iff.1 h
  show (w.heap.modify b _)[b]? = _
  rw [Array.getElem?_eq_getElem (by rw [Array.size_modify]; exact hlt), Array.getElem_modify_self, hk]
  rfl
theorem Tryz.info36 : (Tryz.prog.info? 36).map (fun i => (i.zero, i.size, i.bytes)) = some (some (.agg #[.int .i64 0, .slice none 0 0, .slice none 0 0, .int .i64 0]), 4, 64) := by kernel_rfl
set_option maxHeartbeats 2000000 in
set_option maxRecDepth 20000 in
theorem rone_any (f : Fun) (h : Nat) (v tv : Value) (w : World) (hv : FunV w f v) (ht : TabL w (succsF f) tv) (hF : Ful f) (hT : Tos f) (h0 : 0 < f.2.2.2.1.length) :
    Calls Tryz.prog 29 #[v, tv, .int .i64 h] w fun e w' => Below w.heap.size w w' ∧ ((backsOf f h = [] ∧ e = .returned (.tuple #[.agg #[.int .i64 0, .slice none 0 0, .slice none 0 0, .int .i64 0], .bool false])) ∨
      (backsOf f h ≠ [] ∧ ∃ vb vk, e = .returned (.tuple #[.agg #[.int .i64 h, vb, vk, .int .i64 (-1)], .bool true]) ∧ w'.ownsRow w.heap.size 3 1 vb (blocksOf f h).length (ints (blocksOf f h)) ∧ w'.ownsRow w.heap.size 3 1 vk (backsOf f h).length (ints (backsOf f h)))) := by
  obtain ⟨i0, hi0, hz0, hz1, hz2⟩ := info_parts Tryz.info3
  have hv2 := hv
  obtain ⟨vp, vb, rfl, _, _⟩ := hv2
  have b0 := below_box w (.cells #[.string (bs f.1), vp, .int .i64 f.2.2.1, vb, .int .i64 f.2.2.2.2] 25)
  have X0 := hide (L5.Box.new w [.string (bs f.1), vp, .int .i64 f.2.2.1, vb, .int .i64 f.2.2.2.2] 25)
  have HV := hide (hv.below b0)
  have B0 := hide b0
  have HV0 := hide hv
  have HT := hide ht
  have HBk := hide (fun v w tv hv ht => rbacks_any f h v tv w hv ht hF (gr_succs hT h0))
  have HIn := hide (fun (K : Nat) (frm : List Int) v fro fc w hv hfr hfl (hk : K < f.2.2.2.1.length) => rin_any f h K frm v fro fc w hv hfr hfl hF hT h0 ⟨by omega, by omega⟩)
  have hN : f.2.2.2.1.length ≤ 1000000 := hF.1
  clear ht hF hT h0
  clear b0 hv
  obtain ⟨lp, cp, rfl⟩ : ∃ ao c, vp = .slice ao f.2.1.length c := by
    obtain ⟨vp', vb', e, ⟨ao, c, e2, _⟩, _⟩ := HV.out
    injection e with e
    have e1 := congrArg (fun a => a[1]?) e
    simp at e1
    exact ⟨ao, c, by rw [e1, e2]⟩
  obtain ⟨lb, cb, rfl⟩ : ∃ ao c, vb = .slice ao f.2.2.2.1.length c := by
    obtain ⟨vp', vb', e, _, ⟨ao, c, e2, _⟩⟩ := HV.out
    injection e with e
    have e1 := congrArg (fun a => a[3]?) e
    simp at e1
    exact ⟨ao, c, by rw [e1, e2]⟩
  generalize bs f.1 = nm at *
  generalize f.2.1.length = lps at *
  generalize f.2.2.1 = rt at *
  obtain ⟨lbs, hlbs⟩ : ∃ n, n = f.2.2.2.1.length := ⟨_, rfl⟩
  have HEnd : Hid (blocksOf f h = blocksK f h lbs) := hide (by rw [hlbs]; rfl)
  rw [← hlbs] at X0 HV HV0 B0 hN HIn ⊢
  have hbkl : (backsOf f h).length ≤ lbs := by rw [hlbs]; exact backsK_len _ _ _
  clear hlbs
  generalize f.2.2.2.2 = pl at *
  obtain ⟨tb, to, tc, rfl, _, _⟩ := id HT.out
  go_enter Tryz.func29, Tryz.ntmps29
  go_upto_region 1 with fail
  show Code.wp _ _ _ _ ((w.alloc (.cells #[.string nm, .slice lp lps cp, .int .i64 rt, .slice lb lbs cb, .int .i64 pl] 25)).alloc (.cells #[.int .i64 0, .slice none 0 0, .slice none 0 0, .int .i64 0] 36))
  have hA : Hid (((w.alloc (.cells #[.string nm, .slice lp lps cp, .int .i64 rt, .slice lb lbs cb, .int .i64 pl] 25)).alloc (.cells #[.int .i64 0, .slice none 0 0, .slice none 0 0, .int .i64 0] 36)).heap[w.heap.size]? = some (.cells #[.string nm, .slice lp lps cp, .int .i64 rt, .slice lb lbs cb, .int .i64 pl] 25 (0, 0))) := hide ((Below.heap_alloc _ _ _ (by simp)).trans (World.alloc_heap_new w _))
  have hZ : Hid (((w.alloc (.cells #[.string nm, .slice lp lps cp, .int .i64 rt, .slice lb lbs cb, .int .i64 pl] 25)).alloc (.cells #[.int .i64 0, .slice none 0 0, .slice none 0 0, .int .i64 0] 36)).heap[w.heap.size + 1]? = some (.cells #[.int .i64 0, .slice none 0 0, .slice none 0 0, .int .i64 0] 36 (0, 0))) := hide (by
    have := World.alloc_heap_new (w.alloc (.cells #[.string nm, .slice lp lps cp, .int .i64 rt, .slice lb lbs cb, .int .i64 pl] 25)) (.cells #[.int .i64 0, .slice none 0 0, .slice none 0 0, .int .i64 0] 36)
    rwa [World.size_alloc] at this)
  have hBW : Hid (Below w.heap.size w ((w.alloc (.cells #[.string nm, .slice lp lps cp, .int .i64 rt, .slice lb lbs cb, .int .i64 pl] 25)).alloc (.cells #[.int .i64 0, .slice none 0 0, .slice none 0 0, .int .i64 0] 36))) := hide (B0.out.alloc (by simp) _)
  have hsW : w.heap.size + 1 < ((w.alloc (.cells #[.string nm, .slice lp lps cp, .int .i64 rt, .slice lb lbs cb, .int .i64 pl] 25)).alloc (.cells #[.int .i64 0, .slice none 0 0, .slice none 0 0, .int .i64 0] 36)).heap.size := by simp
  clear X0 HV B0
  generalize (w.alloc (.cells #[.string nm, .slice lp lps cp, .int .i64 rt, .slice lb lbs cb, .int .i64 pl] 25)).alloc (.cells #[.int .i64 0, .slice none 0 0, .slice none 0 0, .int .i64 0] 36) = W at *
  obtain ⟨q1, hq1⟩ : ∃ q1, w.heap.size + 1 = q1 := ⟨_, rfl⟩
  rw [hq1] at hZ hsW ⊢
  have hqq : w.heap.size < q1 := by omega
  replace hq1 := hide hq1
  have X0 := hide (box_five hA.out)
  obtain ⟨x0, x1, x2, x3, x4⟩ : _ ∧ _ ∧ _ ∧ _ ∧ _ := ⟨X0.out.2 0 _ rfl, X0.out.2 1 _ rfl, X0.out.2 2 _ rfl, X0.out.2 3 _ rfl, X0.out.2 4 _ rfl⟩
  have HC := hide (HBk.out _ W _ (HV0.out.below hBW.out) (HT.out.below hBW.out))
  go_wp2_with fail
  refine HC.out.mono ?_; rintro e w1 ⟨u, rfl, hu⟩
  have hA1 : Hid (w1.heap[w.heap.size]? = some (.cells #[.string nm, .slice lp lps cp, .int .i64 rt, .slice lb lbs cb, .int .i64 pl] 25 (0, 0))) := hide ((hu.2.block _ (by omega)).trans hA.out)
  have hZ1 : Hid (w1.heap[q1]? = some (.cells #[.int .i64 0, .slice none 0 0, .slice none 0 0, .int .i64 0] 36 (0, 0))) := hide ((hu.2.block _ hsW).trans hZ.out)
  have hB1 : Hid (Below w.heap.size w w1) := hide (below_step hBW.out hu.2)
  have HK1 : Hid (w1.ownsRow w.heap.size 3 1 u (backsOf f h).length (ints (backsOf f h))) := hide (own_base hu.1 hBW.out.size)
  obtain ⟨ko, kc, rfl⟩ := own_len hu.1
  have hsz1 : q1 < w1.heap.size := Nat.lt_of_lt_of_le hsW hu.2.size
  clear x0 x1 x2 x3 x4 hu HC hA hZ hBW X0 hsW
  by_cases hbe : backsOf f h = []
  · have hl0 : ((backsOf f h).length : Int) = 0 := by rw [hbe]; rfl
    obtain ⟨⟨z0, z1, z2, z3⟩, ⟨f0, f1, f2, f3⟩, _⟩ := four_of hZ1.out
    have HE : Hid (Below w.heap.size w ((((w1.setCell ⟨q1, 0, none⟩ (.int .i64 0)).setCell ⟨q1, 1, none⟩ (.slice none 0 0)).setCell ⟨q1, 2, none⟩ (.slice none 0 0)).setCell ⟨q1, 3, none⟩ (.int .i64 0))) := hide ((((hB1.out.setCell (p := ⟨q1, 0, none⟩) (by show w.heap.size ≤ q1; omega) _).setCell (p := ⟨q1, 1, none⟩) (by show w.heap.size ≤ q1; omega) _).setCell (p := ⟨q1, 2, none⟩) (by show w.heap.size ≤ q1; omega) _).setCell (p := ⟨q1, 3, none⟩) (by show w.heap.size ≤ q1; omega) _)
    have Hbe := hide hbe
    clear hbe
    go_wp2_with fail
    exact bodyPost_ret (v := .tuple #[.agg #[.int .i64 0, .slice none 0 0, .slice none 0 0, .int .i64 0], .bool false]) (by simp [results, Tryz.results29, go_sem, z0, z1, z2, z3]) rfl ⟨HE.out, .inl ⟨Hbe.out, rfl⟩⟩
  · have hl1 : 0 < (backsOf f h).length := by
      cases e : backsOf f h with
      | nil => exact absurd e hbe
      | cons a l => simp
    have hl0 : (((backsOf f h).length : Int) == 0) = false := beq_eq_false_iff_ne.2 (by omega)
    have Hbe := hide hbe
    have hkls : (backsOf f h).length ≤ 1000000 := by omega
    obtain ⟨ks, hks⟩ : ∃ ks, backsOf f h = ks := ⟨_, rfl⟩
    rw [hks] at HK1 hl0 hkls hl1
    rw [hks]
    replace hks := hide hks
    clear hbe hbkl
    go_upto_region 5 with fail
    show Code.wp _ _ _ _ (w1.alloc (.cells #[.int .i64 h, .slice none 0 0, .slice ko ks.length kc, .int .i64 (-1)] 36))
    have b2 := below_box w1 (.cells #[.int .i64 h, .slice none 0 0, .slice ko ks.length kc, .int .i64 (-1)] 36)
    have HS0 : Hid (OneW w w.heap.size q1 w1.heap.size #[.string nm, .slice lp lps cp, .int .i64 rt, .slice lb lbs cb, .int .i64 pl] #[.int .i64 h, .slice none 0 0, .slice ko ks.length kc, .int .i64 (-1)] (.slice none 0 0) (.slice ko ks.length kc) (blocksK f h 0) ks (w1.alloc (.cells #[.int .i64 h, .slice none 0 0, .slice ko ks.length kc, .int .i64 (-1)] 36))) := hide
      ⟨(b2.block _ (by omega)).trans hA1.out, (b2.block _ hsz1).trans hZ1.out, World.alloc_heap_new w1 _, World.ownsRow_nil _ _ _ _, own_below b2 _ _ _ _ _ _ HK1.out, .inl rfl, below_step hB1.out b2⟩
    obtain ⟨bl, hbl⟩ : ∃ bl, w1.heap.size = bl := ⟨_, rfl⟩
    rw [hbl] at HS0 hsz1 ⊢
    generalize w1.alloc (.cells #[.int .i64 h, .slice none 0 0, .slice ko ks.length kc, .int .i64 (-1)] 36) = w2 at *
    clear b2 hA1 hZ1 hB1 HK1 hbl
    go_wp2_with fail
    go_loopw [10] (fun i wr => ∃ (K : Nat) (vb : Value), K ≤ lbs ∧ i = .int .i64 K ∧ Hid (OneW w w.heap.size q1 bl #[.string nm, .slice lp lps cp, .int .i64 rt, .slice lb lbs cb, .int .i64 pl] #[.int .i64 h, vb, .slice ko ks.length kc, .int .i64 (-1)] vb (.slice ko ks.length kc) (blocksK f h K) ks wr)) (fun i _ => lbs - (intOf i).toNat)
    case atStart => exact ⟨0, _, Nat.zero_le _, rfl, HS0⟩
    case round =>
      clear HS0
      obtain ⟨K, vb, hK, rfl, HS⟩ := hrel
      have hkl := blocksK_len f h K
      obtain ⟨y1, y2, y3, y4, y5, y6, y7⟩ := HS.out
      have X1 := hide (box_five y1)
      obtain ⟨x0, x1, x2, x3, x4⟩ : _ ∧ _ ∧ _ ∧ _ ∧ _ := ⟨X1.out.2 0 _ rfl, X1.out.2 1 _ rfl, X1.out.2 2 _ rfl, X1.out.2 3 _ rfl, X1.out.2 4 _ rfl⟩
      by_cases hkt : K < lbs
      · have hkI : (K : Int) < lbs := by omega
        have HC2 : Hid (Calls Tryz.prog 51 #[(.agg #[.string nm, .slice lp lps cp, .int .i64 rt, .slice lb lbs cb, .int .i64 pl]), .int .i64 h, .slice ko ks.length kc, .int .i64 K] wr fun e w' => e = .returned (.bool (inL (succsF f) h (backsOf f h) K)) ∧ Below wr.heap.size wr w') := hide (by
          obtain ⟨ko', kc', e, hsl, _, _⟩ := ints_of y5
          injection e with e1 e2 e3
          subst e1 e3
          rw [hks.out]
          exact HIn.out K ks _ ko kc wr (HV0.out.below y7) hsl hkls hkt)
        clear y1 y2 y3 y4 y5 y6 y7
        cases hb : inL (succsF f) h (backsOf f h) K with
        | true =>
          rw [hb] at HC2
          have HE0 := hide (blocksK_yes hb)
          clear hb
          go_wp2_with fail
          refine HC2.out.mono ?_; rintro e w3 ⟨rfl, b3⟩
          have HS3 := hide (HS.out.below b3)
          obtain ⟨y1, y2, y3, y4, y5, y6, y7⟩ := id HS3.out
          obtain ⟨⟨c0, c1, c2, c3⟩, ⟨f0, f1, f2, f3⟩, hblt⟩ := four_of y3
          obtain ⟨bo, bc, rfl⟩ := own_len y4
          have hWs := y7.size
          have Y4 := hide y4
          clear b3 HC2 x0 x1 x2 x3 x4 X1 HS y1 y2 y3 y4 y5 y6 y7
          go_wp2_with (at_builtin; refine wpList_append_own_at _ rfl (.tmp 35) (.tmp 37) 22 rfl w.heap.size 3 i0 _ 1 8 Tryz.underlying22 hi0 hz0 hz1 hz2 rfl (by decide) _ _ _ rfl (Y4.out.alloc _) ⟨w3.heap.size, 0, none⟩ 1 1 [.int .i64 K] rfl rfl one_cell one_one (by unfold maxLen; omega) (by omega) (by simp; omega) ?_; intro v5 w5 own5 grow5 _ at5; refine Hid.out ?_)
          obtain ⟨y1, y2, y3, y4, y5, y6, y7⟩ := HS3.out
          have bk : ∀ (k : Nat) (cs : Array Value) (t : Nat), w3.heap[k]? = some (.cells cs t (0, 0)) → t ≠ 3 → w5.heap[k]? = some (.cells cs t (0, 0)) := fun k cs t hk ht => by
            have hlt := (Array.getElem?_eq_some_iff.1 hk).1
            rw [grow5.block k (by simp; omega) (block_far y4 hk ht), Below.heap_alloc _ _ _ hlt]
            exact hk
          have z1 := bk _ _ _ y1 (by decide)
          have z2 := bk _ _ _ y2 (by decide)
          have z3 := bk _ _ _ y3 (by decide)
          obtain ⟨⟨e0, e1, e2, e3⟩, ⟨g0, g1, g2, g3⟩, _⟩ := four_of z3
          have hne1 : w.heap.size ≠ bl := by omega
          have hne2 : q1 ≠ bl := by omega
          have HE : Hid (OneW w w.heap.size q1 bl #[.string nm, .slice lp lps cp, .int .i64 rt, .slice lb lbs cb, .int .i64 pl] #[.int .i64 h, v5, .slice ko ks.length kc, .int .i64 (-1)] v5 (.slice ko ks.length kc) (blocksK f h (K + 1)) ks (w5.setCell ⟨bl, 1, none⟩ v5)) := hide (by
            refine ⟨(Below.heap_setCell w5 ⟨bl, 1, none⟩ v5 _ hne1).trans z1, (Below.heap_setCell w5 ⟨bl, 1, none⟩ v5 _ hne2).trans z2, setCell_four z3 v5, ?_, ?_, ?_, ?_⟩
            · rw [HE0.out]
              have : w5.ownsRow w.heap.size 3 1 v5 (blocksK f h K ++ [(K : Int)]).length (ints (blocksK f h K ++ [(K : Int)])) := by simpa [ints] using own5
              exact own_setCell this (fun e => block_far this z3 (by decide) e.symm) v5
            · have h5 := (y5.alloc (.cells #[.int .i64 K] 3)).kept grow5 y6.symm
              exact own_setCell h5 (fun e => block_far h5 z3 (by decide) e.symm) v5
            · exact (Apart.grow (w := w3) y6.symm y5 at5).symm
            · exact (Below.grown (y7.alloc hWs _) grow5 (by simp; omega) (fun j hj => (y4.lt j hj).1)).setCell (p := ⟨bl, 1, none⟩) (by show w.heap.size ≤ bl; omega) _)
          obtain ⟨vo, vc, rfl⟩ := own_len own5
          clear own5 grow5 at5 bk z1 z2 z3 y1 y2 y3 y4 y5 y6 y7 c0 c1 c2 c3 f0 f1 f2 f3
          refine hide ?_
          go_wp2_with fail
          go_roundw
          case rel => exact ⟨K + 1, _, by omega, by go_num, HE⟩
          case measure => simp [intOf]; omega
        | false =>
          rw [hb] at HC2
          have HE0 := hide (blocksK_no hb)
          clear hb
          go_wp2_with fail
          refine HC2.out.mono ?_; rintro e w3 ⟨rfl, b3⟩
          have HE : Hid (OneW w w.heap.size q1 bl #[.string nm, .slice lp lps cp, .int .i64 rt, .slice lb lbs cb, .int .i64 pl] #[.int .i64 h, vb, .slice ko ks.length kc, .int .i64 (-1)] vb (.slice ko ks.length kc) (blocksK f h (K + 1)) ks w3) := hide (by rw [HE0.out]; exact HS.out.below b3)
          clear b3 HC2 x0 x1 x2 x3 x4 X1 HS
          go_wp2_with fail
          go_roundw
          case rel => exact ⟨K + 1, _, by omega, by go_num, HE⟩
          case measure => simp [intOf]; omega
      · obtain rfl : K = lbs := by omega
        obtain ⟨⟨c0, c1, c2, c3⟩, ⟨g0, g1, g2, g3⟩, hblt⟩ := four_of y3
        obtain ⟨⟨z0, z1, z2, z3⟩, ⟨f0, f1, f2, f3⟩, _⟩ := four_of y2
        obtain ⟨bo, bc, rfl⟩ := own_len y4
        have hle : w.heap.size ≤ q1 := by omega
        have HE : Hid (Below w.heap.size w ((((wr.setCell ⟨q1, 0, none⟩ (.int .i64 h)).setCell ⟨q1, 1, none⟩ (.slice bo (blocksK f h K).length bc)).setCell ⟨q1, 2, none⟩ (.slice ko ks.length kc)).setCell ⟨q1, 3, none⟩ (.int .i64 (-1))) ∧
            (((((wr.setCell ⟨q1, 0, none⟩ (.int .i64 h)).setCell ⟨q1, 1, none⟩ (.slice bo (blocksK f h K).length bc)).setCell ⟨q1, 2, none⟩ (.slice ko ks.length kc)).setCell ⟨q1, 3, none⟩ (.int .i64 (-1))).ownsRow w.heap.size 3 1 (.slice bo (blocksK f h K).length bc) (blocksK f h K).length (ints (blocksK f h K))) ∧
            (((((wr.setCell ⟨q1, 0, none⟩ (.int .i64 h)).setCell ⟨q1, 1, none⟩ (.slice bo (blocksK f h K).length bc)).setCell ⟨q1, 2, none⟩ (.slice ko ks.length kc)).setCell ⟨q1, 3, none⟩ (.int .i64 (-1))).ownsRow w.heap.size 3 1 (.slice ko ks.length kc) ks.length (ints ks))) := hide (by
          have fb := fun e => block_far y4 y2 (by decide) e
          have fk := fun e => block_far y5 y2 (by decide) e
          refine ⟨(((y7.setCell (p := ⟨q1, 0, none⟩) hle _).setCell (p := ⟨q1, 1, none⟩) hle _).setCell (p := ⟨q1, 2, none⟩) hle _).setCell (p := ⟨q1, 3, none⟩) hle _, ?_, ?_⟩
          · exact own_setCell (own_setCell (own_setCell (own_setCell y4 (p := ⟨q1, 0, none⟩) (fun e => fb e.symm) _) (p := ⟨q1, 1, none⟩) (fun e => fb e.symm) _) (p := ⟨q1, 2, none⟩) (fun e => fb e.symm) _) (p := ⟨q1, 3, none⟩) (fun e => fb e.symm) _
          · exact own_setCell (own_setCell (own_setCell (own_setCell y5 (p := ⟨q1, 0, none⟩) (fun e => fk e.symm) _) (p := ⟨q1, 1, none⟩) (fun e => fk e.symm) _) (p := ⟨q1, 2, none⟩) (fun e => fk e.symm) _) (p := ⟨q1, 3, none⟩) (fun e => fk e.symm) _)
        clear y1 y2 y3 y4 y5 y6 y7
        go_wp2_with fail
        exact bodyPost_ret (v := .tuple #[.agg #[.int .i64 h, .slice bo (blocksK f h K).length bc, .slice ko ks.length kc, .int .i64 (-1)], .bool true]) (by simp [results, Tryz.results29, go_sem, z0, z1, z2, z3]) rfl ⟨HE.out.1, .inr ⟨Hbe.out, _, _, rfl, by rw [HEnd.out]; exact HE.out.2.1, by rw [hks.out]; exact HE.out.2.2⟩⟩
end Go.Proofs.YtmiplohoclckcaaGreat
namespace Go.Proofs.YtmiplohoclckcaaGreat
open Go Go.RowKit
open G (Tok Er Ins Fun)
theorem bestK_skip {l : List Lp} {i K : Nat} (h : okB l i K = false) : bestK l i (K + 1) = bestK l i K := by rw [bestK, h]; simp
theorem bestK_first {l : List Lp} {i K : Nat} (h : okB l i K = true) (h2 : bestK l i K < 0) : bestK l i (K + 1) = K := by rw [bestK, h]; simp [h2]
theorem bestK_less {l : List Lp} {i K : Nat} (h : okB l i K = true) (h2 : nB l K < nB l (bestK l i K).toNat) : bestK l i (K + 1) = K := by rw [bestK, h]; simp [h2]
theorem bestK_keep {l : List Lp} {i K : Nat} (h1 : ¬ bestK l i K < 0) (h2 : ¬ nB l K < nB l (bestK l i K).toNat) : bestK l i (K + 1) = bestK l i K := by rw [bestK]; simp [h1, h2]
/-- A loop's cells, wherever memory has grown to. -/
theorem lp_cells {w : World} {x : Lp} {g o : Nat} (h : LpR w x g o) : ∃ bo bc, g < w.heap.size ∧ w.cell? ⟨g, o, none⟩ = some (.int .i64 x.1) ∧ w.cell? ⟨g, o + 1, none⟩ = some (.slice bo x.2.1.length bc) ∧ Sl w bo x.2.1 ∧ x.2.1.length ≤ maxLen := by
  obtain ⟨h1, vb, vk, c0, c1, _, _, ⟨bo, bc, rfl, hs, k1, k2⟩, _⟩ := h
  exact ⟨bo, bc, h1, c0, c1, hs, Nat.le_trans k1 k2⟩
set_option maxHeartbeats 4000000 in
set_option maxRecDepth 20000 in
theorem rwithin_any (l : List Lp) (i : Nat) (hi : i < l.length) (hl : l.length ≤ 1000000) (v : Value) (w : World) (hv : LoopsV w l v) :
    Calls Tryz.prog 30 #[v, .int .i64 i] w fun e w' => e = .returned (.int .i64 (bestK l i l.length)) ∧ Below w.heap.size w w' := by
  obtain ⟨ao, c, rfl, _, _, hv3⟩ := hv
  rcases hv3 with rfl | ⟨g, o, rfl, hc⟩
  · simp at hi
  have HC := hide (fun (k : Nat) (hk : k < l.length) => hc k _ (lpN_at hk))
  have hiI : (i : Int) < l.length := by omega
  clear hc
  go_enter Tryz.func30, Tryz.ntmps30
  go_wp2_with fail
  go_loopw [5, 6] (fun bv kv wr => ∃ K : Nat, K ≤ l.length ∧ bv = .int .i64 (bestK l i K) ∧ kv = .int .i64 K ∧ Hid (Below w.heap.size w wr)) (fun _ kv _ => l.length - (intOf kv).toNat)
  case atStart => exact ⟨0, Nat.zero_le _, rfl, rfl, hide (Below.refl _ _)⟩
  case round =>
    obtain ⟨K, hK, rfl, rfl, HW⟩ := hrel
    by_cases hkt : K < l.length
    · have hkI : (K : Int) < l.length := by omega
      have hB2 := fun x => below_step HW.out (L5.grewTo_below wr x)
      obtain ⟨bo, bc, hgl, a0, a1, a2, a3⟩ := lp_cells (HC.out K hkt)
      obtain ⟨bo2, bc2, _, d0, d1, d2, d3⟩ := lp_cells (HC.out i hi)
      have c1 := fun x => ((hB2 x).cell (p := ⟨g, o + K * 4 + 1, none⟩) hgl).trans a1
      have e0 := fun x => ((hB2 x).cell (p := ⟨g, o + i * 4, none⟩) hgl).trans d0
      have e1 := fun x => ((hB2 x).cell (p := ⟨g, o + i * 4 + 1, none⟩) hgl).trans d1
      have HH := hide (fun x => rhas_any (lpN l K).2.1 (lpN l i).1 bo bc (L5.grewTo wr x) (a2.below (hB2 x)) a3)
      replace hB2 := hide hB2
      have hlow := bestK_low l i K
      unfold maxLen at a3 d3
      clear a0 a1 a2 d0 d1 d2
      by_cases hki : (K : Int) = i
      · have hkb : ((K : Int) == (i : Int)) = true := beq_iff_eq.2 hki
        have HE : Hid (bestK l i (K + 1) = bestK l i K) := hide (bestK_skip (by unfold okB; simp; intro h; omega))
        clear hki
        go_wp2_with fail
        refine L5.region_grew (by kernel_rfl) (by kernel_rfl) ?_
        repeat (go_big_quiet_step (fail))
        refine wpQuiet_nil ?_
        rintro _ ⟨x, rfl⟩
        go_wp2_with fail
        go_roundw
        case rel => exact ⟨K + 1, by omega, by rw [HE.out], by go_num, hide (hB2.out x)⟩
        case measure => simp [intOf]; omega
      · have hkb : ((K : Int) == (i : Int)) = false := beq_eq_false_iff_ne.2 hki
        have hkn : K ≠ i := by omega
        cases hh : hasL (lpN l K).2.1 (lpN l i).1 with
        | false =>
          rw [hh] at HH
          have HE : Hid (bestK l i (K + 1) = bestK l i K) := hide (bestK_skip (by unfold okB; simp [hh]))
          clear hki hh
          go_wp2_with fail
          refine L5.region_grew (by kernel_rfl) (by kernel_rfl) ?_
          repeat (go_big_quiet_step ((go_at_call 19; exact L5.calls_grew_same (HH.out _))))
          refine wpQuiet_nil ?_
          rintro _ ⟨x, rfl⟩
          go_wp2_with fail
          go_roundw
          case rel => exact ⟨K + 1, by omega, by rw [HE.out], by go_num, hide (hB2.out x)⟩
          case measure => simp [intOf]; omega
        | true =>
          rw [hh] at HH
          by_cases hle : (lpN l K).2.1.length ≤ (lpN l i).2.1.length
          · have hleI : (((lpN l K).2.1.length : Nat) : Int) ≤ (((lpN l i).2.1.length : Nat) : Int) := by omega
            have HE : Hid (bestK l i (K + 1) = bestK l i K) := hide (bestK_skip (by unfold okB nB; simp; intro _ _; omega))
            have hd : decide ((((lpN l K).2.1.length : Nat) : Int) ≤ (((lpN l i).2.1.length : Nat) : Int)) = true := decide_eq_true hleI
            clear hki hh hle
            go_wp2_with fail
            refine L5.region_grew (by kernel_rfl) (by kernel_rfl) ?_
            repeat (go_big_quiet_step ((go_at_call 19; exact L5.calls_grew_same (HH.out _))))
            refine wpQuiet_nil ?_
            rintro _ ⟨x, rfl⟩
            go_wp2_with fail
            go_roundw
            case rel => exact ⟨K + 1, by omega, by rw [HE.out], by go_num, hide (hB2.out x)⟩
            case measure => simp [intOf]; omega
          · have hleI : ¬ (((lpN l K).2.1.length : Nat) : Int) ≤ (((lpN l i).2.1.length : Nat) : Int) := by omega
            have hd : decide ((((lpN l K).2.1.length : Nat) : Int) ≤ (((lpN l i).2.1.length : Nat) : Int)) = false := decide_eq_false hleI
            have HOk : Hid (okB l i K = true) := hide (by unfold okB nB; simp [hh]; omega)
            have c1b := (HC.out K hkt)
            clear hki hh hle
            go_wp2_with fail
            refine L5.region_grew (by kernel_rfl) (by kernel_rfl) ?_
            repeat (go_big_quiet_step ((go_at_call 19; exact L5.calls_grew_same (HH.out _))))
            refine wpQuiet_nil ?_
            rintro _ ⟨x, rfl⟩
            go_upto_region 6 with fail
            have HW2 := hide (hB2.out x)
            generalize L5.grewTo wr x = wD at *
            clear HH e0 e1 hB2 hd hleI HW c1 c1b
            by_cases hb0 : bestK l i K < 0
            · have HE := hide (bestK_first HOk.out hb0)
              have hb1 : decide (bestK l i K < 0) = true := decide_eq_true hb0
              have hB3 := hide (fun y => below_step HW2.out (L5.grewTo_below wD y))
              refine L5.region_grew (by kernel_rfl) (by kernel_rfl) ?_
              repeat (go_big_quiet_step (fail))
              refine wpQuiet_nil ?_
              rintro _ ⟨y, rfl⟩
              go_wp2_with fail
              go_roundw
              case rel => exact ⟨K + 1, by omega, by rw [HE.out], by go_num, hide (hB3.out y)⟩
              case measure => simp [intOf]; omega
            · obtain ⟨Bn, hBn⟩ : ∃ Bn : Nat, bestK l i K = (Bn : Int) := ⟨(bestK l i K).toNat, by omega⟩
              have hBl : Bn < l.length := by omega
              have hBI : (Bn : Int) < l.length := by omega
              have hb1 : decide ((Bn : Int) < 0) = false := decide_eq_false (by omega)
              have hB3 := fun y => below_step HW2.out (L5.grewTo_below wD y)
              obtain ⟨qo, qc, _, _, q1, _, q3⟩ := lp_cells (HC.out Bn hBl)
              obtain ⟨ro, rc, _, _, r1, _, r3⟩ := lp_cells (HC.out K hkt)
              have k1 := fun y => ((hB3 y).cell (p := ⟨g, o + Bn * 4 + 1, none⟩) hgl).trans q1
              have k2 := fun y => ((hB3 y).cell (p := ⟨g, o + K * 4 + 1, none⟩) hgl).trans r1
              replace hB3 := hide hB3
              rw [hBn]
              have HBn := hide hBn
              unfold maxLen at q3 r3
              clear q1 r1 hlow hb0
              by_cases hlt : (lpN l K).2.1.length < (lpN l Bn).2.1.length
              · have hltI : (((lpN l K).2.1.length : Nat) : Int) < (((lpN l Bn).2.1.length : Nat) : Int) := by omega
                have hd : decide ((((lpN l K).2.1.length : Nat) : Int) < (((lpN l Bn).2.1.length : Nat) : Int)) = true := decide_eq_true hltI
                have HE : Hid (bestK l i (K + 1) = K) := hide (bestK_less HOk.out (by rw [HBn.out]; exact hlt))
                clear hBn hlt
                refine L5.region_grew (by kernel_rfl) (by kernel_rfl) ?_
                repeat (go_big_quiet_step (fail))
                refine wpQuiet_nil ?_
                rintro _ ⟨y, rfl⟩
                go_wp2_with fail
                go_roundw
                case rel => exact ⟨K + 1, by omega, by rw [HE.out], by go_num, hide (hB3.out y)⟩
                case measure => simp [intOf]; omega
              · have hltI : ¬ (((lpN l K).2.1.length : Nat) : Int) < (((lpN l Bn).2.1.length : Nat) : Int) := by omega
                have hd : decide ((((lpN l K).2.1.length : Nat) : Int) < (((lpN l Bn).2.1.length : Nat) : Int)) = false := decide_eq_false hltI
                have HE : Hid (bestK l i (K + 1) = Bn) := hide (by rw [bestK_keep (by rw [HBn.out]; omega) (by rw [HBn.out]; exact hlt), HBn.out])
                clear hBn hlt
                refine L5.region_grew (by kernel_rfl) (by kernel_rfl) ?_
                repeat (go_big_quiet_step (fail))
                refine wpQuiet_nil ?_
                rintro _ ⟨y, rfl⟩
                go_wp2_with fail
                go_roundw
                case rel => exact ⟨K + 1, by omega, by rw [HE.out], by go_num, hide (hB3.out y)⟩
                case measure => simp [intOf]; omega
    · obtain rfl : K = l.length := by omega
      go_wp2_with fail
      go_ret
      exact ⟨rfl, HW.out⟩
end Go.Proofs.YtmiplohoclckcaaGreat
namespace Go.Proofs.YtmiplohoclckcaaGreat
open Go Go.RowKit
open G (Tok Er Ins Fun)
/-- No more than is waited for. -/
def Lgt9 (f : Fun) : Prop := Lgt f ∧ f.2.2.2.1.length ≤ 10
theorem Lgt9.few {f : Fun} (h : Lgt9 f) : (succsF f).length ≤ 10 := by rw [succsF_len]; exact h.2
def R64 (a : Int) : Prop := -9223372036854775808 ≤ a ∧ a < 9223372036854775808
set_option maxHeartbeats 4000000 in
set_option maxRecDepth 20000 in
theorem light9_try (nm : List UInt8) (ps : List Int) (rt pl : Int) (bl : List (List Ins)) (ao bo : Option Addr) (c cb : Nat) (w : World)
    (hv : FunV w (nm, ps, rt, bl, pl) (.agg #[.string (bs nm), .slice ao ps.length c, .int .i64 rt, .slice bo bl.length cb, .int .i64 pl])) (hg : GyF (nm, ps, rt, bl, pl)) :
    Calls Tryz.prog 6 #[.agg #[.string (bs nm), .slice ao ps.length c, .int .i64 rt, .slice bo bl.length cb, .int .i64 pl]] w fun e w' => (e = .returned (.bool false) ∨ (e = .returned (.bool true) ∧ Lgt9 (nm, ps, rt, bl, pl))) ∧ Below w.heap.size w w' := by
  have b0 := below_box w (.cells #[.string (bs nm), .slice ao ps.length c, .int .i64 rt, .slice bo bl.length cb, .int .i64 pl] 25)
  have X0 := hide (L5.Box.new w [.string (bs nm), .slice ao ps.length c, .int .i64 rt, .slice bo bl.length cb, .int .i64 pl] 25)
  have HL := hide (light_any (nm, ps, rt, bl, pl) _ _ (hv.below b0) hg)
  have B0 := hide b0
  clear b0 hv hg
  go_enter Tryz.func6, Tryz.ntmps6
  go_upto_region 1 with fail
  show Code.wp _ _ _ _ (w.alloc (.cells #[.string (bs nm), .slice ao ps.length c, .int .i64 rt, .slice bo bl.length cb, .int .i64 pl] 25))
  replace X0 : Hid (L5.Box (w.alloc (.cells #[.string (bs nm), .slice ao ps.length c, .int .i64 rt, .slice bo bl.length cb, .int .i64 pl] 25)) w.heap.size [.string (bs nm), .slice ao ps.length c, .int .i64 rt, .slice bo bl.length cb, .int .i64 pl]) := X0
  generalize w.alloc (.cells #[.string (bs nm), .slice ao ps.length c, .int .i64 rt, .slice bo bl.length cb, .int .i64 pl] 25) = W at *
  obtain ⟨x0, x1, x2, x3, x4⟩ : _ ∧ _ ∧ _ ∧ _ ∧ _ := ⟨X0.out.2 0 _ rfl, X0.out.2 1 _ rfl, X0.out.2 2 _ rfl, X0.out.2 3 _ rfl, X0.out.2 4 _ rfl⟩
  go_wp2_with fail
  refine HL.out.mono ?_; rintro e w1 ⟨he, b1⟩
  have B1 := hide (below_step B0.out b1)
  have X1 := hide (X0.out.below b1)
  clear x0 x1 x2 x3 x4 HL X0 b1
  have x3 := X1.out.2 3 _ rfl
  rcases he with rfl | ⟨rfl, hl⟩
  · go_wp2_with fail
    go_ret
    exact ⟨.inl rfl, B1.out⟩
  · have HLg := hide hl
    clear hl
    by_cases hb : bl.length ≤ 10
    · have hbI : (bl.length : Int) ≤ 10 := by omega
      go_wp2_with fail
      go_ret
      exact ⟨.inr ⟨rfl, HLg.out, hb⟩, B1.out⟩
    · have hbI : ¬ (bl.length : Int) ≤ 10 := by omega
      go_wp2_with fail
      go_ret
      refine ⟨.inl ?_, B1.out⟩
      show Ending.returned (.bool (decide ((bl.length : Int) ≤ 10))) = _
      rw [decide_eq_false (by omega)]
theorem light9_any (f : Fun) (v : Value) (w : World) (hv : FunV w f v) (hg : GyF f) :
    Calls Tryz.prog 6 #[v] w fun e w' => (e = .returned (.bool false) ∨ (e = .returned (.bool true) ∧ Lgt9 f)) ∧ Below w.heap.size w w' := by
  obtain ⟨nm, ps, rt, bl, pl⟩ := f
  have hv2 := hv
  obtain ⟨vp, vb, rfl, ⟨ao, c, rfl, h1, _⟩, h2⟩ := hv
  obtain ⟨bo, cb, rfl, _⟩ := h2
  exact light9_try nm ps rt pl bl ao bo c cb w hv2 hg
theorem fork_lgt : Lgt9 fFork := by
  refine ⟨⟨by decide, ?_, by rw [fork_shape]⟩, by decide⟩
  have h : ∀ b ∈ fFork.2.2.2.1, b.length ≤ 150 ∧ ∀ x ∈ b, x.2.2.2.2.2.1.length ≤ 30 ∧ x.2.2.2.2.1.length ≤ 30 ∧ x.2.2.2.2.2.2.1.length ≤ 100 := by decide +kernel
  exact h
end Go.Proofs.YtmiplohoclckcaaGreat
