/- Layer 10, the reference: the loops of a function. Layer 10, the reference: Depth. Layer 10, the law: whether loops are the same. Layer 10, the reference: Entry. Layer 10, the reference: Inner. Layer 10: what is asked of the program's functions; the small check answers true, where these do. Layer 10: the law LoopsTells. -/
import Derived.Test.YtmiplohoclckcaaGreatLnAY
import Derived.BigQuiet
namespace Go.Proofs.YtmiplohoclckcaaGreat
open Go Go.RowKit
open G (Tok Er Ins Fun)
/-- Loops whose row and whose lists lie from two borders on. -/
def LoopsQ (Bo Bi : Nat) (w : World) (l : List Lp) (v : Value) : Prop := ∃ cs, w.ownsRow Bo 36 4 v l.length cs ∧ LpRow Bi w l cs
theorem LoopsQ.nil (Bo Bi : Nat) (w : World) : LoopsQ Bo Bi w [] (.slice none 0 0) := ⟨[], World.ownsRow_nil _ _ _ _, rfl⟩
theorem LoopsQ.below {Bo Bi : Nat} {w w' : World} {l : List Lp} {v : Value} (h : LoopsQ Bo Bi w l v) (b : Below w.heap.size w w') : LoopsQ Bo Bi w' l v := by
  obtain ⟨cs, h1, h2⟩ := h
  exact ⟨cs, own_below b _ _ _ _ _ _ h1, h2.map (fun v n xs => own_below b Bi 3 1 v n xs) _ _⟩
theorem LoopsQ.own {Bo Bi : Nat} {w : World} {l : List Lp} {v : Value} (h : LoopsQ Bo Bi w l v) (hB : Bi ≤ Bo) : LoopsO Bi w l v := by
  obtain ⟨cs, h1, h2⟩ := h
  exact ⟨cs, own_base h1 hB, h2⟩
theorem LoopsQ.len {Bo Bi : Nat} {w : World} {l : List Lp} {v : Value} (h : LoopsQ Bo Bi w l v) : ∃ ao c, v = .slice ao l.length c := by
  obtain ⟨cs, h1, _⟩ := h
  exact own_len h1
theorem LoopsQ.step {Bo Bi : Nat} {wr w2 : World} {l : List Lp} {x : Lp} {v v' vb vk : Value} {o : Obj} (hb : wr.ownsRow Bi 3 1 vb x.2.1.length (ints x.2.1)) (hk : wr.ownsRow Bi 3 1 vk x.2.2.1.length (ints x.2.2.1))
    {cs : List Value} (hcs : wr.ownsRow Bo 36 4 v l.length cs) (hl : LpRow Bi wr l cs) (own : w2.ownsRow Bo 36 4 v' (l.length + 1) (cs ++ [.int .i64 x.1, vb, vk, .int .i64 x.2.2.2])) (hg : (wr.alloc o).grownBy w2 v.ownBlock) : LoopsQ Bo Bi w2 (l ++ [x]) v' := by
  have mv : ∀ (u : Value) (n : Nat) (xs : List Value), wr.ownsRow Bi 3 1 u n xs → w2.ownsRow Bi 3 1 u n xs := fun u n xs hu => (hu.alloc o).kept hg (own_apart hu hcs (by decide))
  refine ⟨_, by simpa using own, LpRow.snoc (mv _ _ _ hb) (mv _ _ _ hk) _ _ (hl.map mv _ _)⟩
theorem LoopsQ.set {Bo Bi : Nat} {w : World} {l : List Lp} {v : Value} {k o : Nat} {fc : Array Value} (h : LoopsQ Bo Bi w l v) (hk : w.heap[k]? = some (.cells fc 36 (0, 0))) (hf : v.ownBlock ≠ some k) (u : Value) : LoopsQ Bo Bi (w.setCell ⟨k, o, none⟩ u) l v := by
  obtain ⟨cs, h1, h2⟩ := h
  exact ⟨cs, own_setCell h1 (p := ⟨k, o, none⟩) hf u, h2.map (fun v n xs hx => own_setCell hx (p := ⟨k, o, none⟩) (fun e => block_far hx hk (by decide) e.symm) u) _ _⟩
theorem four_cell {w : World} {a0 a1 a2 a3 : Value} {t : TypeId} : ∀ (j : Nat) (u : Value), [a0, a1, a2, a3][j]? = some u → (w.alloc (.cells #[a0, a1, a2, a3] t)).cell? ((⟨w.heap.size, 0, none⟩ : Addr).add j) = some u :=
  World.news_of_block (cs := #[a0, a1, a2, a3]) (heap_alloc_new w _)
theorem lp_one {w : World} {B n m : Nat} {a d : Int} {vb vk : Value} {xs ys : List Value} (hb : w.ownsRow B 3 1 vb n xs) (hk : w.ownsRow B 3 1 vk m ys) : ∀ u ∈ [Value.int .i64 a, vb, vk, Value.int .i64 d], u.oneCell' = true := by
  obtain ⟨bo, bc, rfl⟩ := own_len hb
  obtain ⟨ko, kc, rfl⟩ := own_len hk
  intro u hu
  simp only [List.mem_cons, List.not_mem_nil, or_false] at hu
  rcases hu with rfl | rfl | rfl | rfl <;> rfl
theorem rtable_any (f : Fun) (v : Value) (w : World) (hv : FunV w f v) (hF : Ful f) (hg : Gr (succsF f)) : Calls Tryz.prog 18 #[v] w fun e w' => ∃ u, e = .returned u ∧ TabL w' (succsF f) u ∧ Below w.heap.size w w' := by
  have hp := hg.2
  obtain ⟨nm, ps, rt, bl, pl⟩ := f
  have hv2 := hv
  obtain ⟨vp, vb, rfl, ⟨ao, c, rfl, h1, _⟩, h2⟩ := hv
  obtain ⟨bo, cb, rfl, _⟩ := h2
  exact (rtable_try nm ps rt pl bl ao bo c cb w hv2 hF hg).mono fun e w' ⟨u, he, h, b⟩ => ⟨u, he, h.read hp, b⟩
end Go.Proofs.YtmiplohoclckcaaGreat
namespace Go.Proofs.YtmiplohoclckcaaGreat
open Go Go.RowKit
open G (Tok Er Ins Fun)
theorem LoopsV.at {w : World} {l : List Lp} {ao : Option Addr} (h : l = [] ∨ ∃ g o, ao = some ⟨g, o, none⟩ ∧ ∀ (i : Nat) (x : Lp), l[i]? = some x → LpR w x g (o + i * 4)) {i : Nat} (hi : i < l.length) : ∃ g o, ao = some ⟨g, o, none⟩ ∧ LpR w (lpN l i) g (o + i * 4) := by
  rcases h with rfl | ⟨g, o, rfl, hc⟩
  · simp at hi
  · exact ⟨g, o, rfl, hc i _ (lpN_at hi)⟩
theorem depthL_succ (l : List Lp) (k : Int) (K : Nat) : depthL l k (K + 1) = depthL l k K + (if hasL (lpN l K).2.1 k then 1 else 0) := cntB_succ _ _
theorem depthL_max (l : List Lp) (k : Int) (K : Nat) : depthL l k K ≤ K := cntB_max _ _
end Go.Proofs.YtmiplohoclckcaaGreat
namespace Go.Proofs.YtmiplohoclckcaaGreat
open Go Go.RowKit
open G (Tok Er Ins Fun)
/-- A loop's cells, all of them. -/
theorem lp_all {w : World} {x : Lp} {g o : Nat} (h : LpR w x g o) : ∃ vb vk, g < w.heap.size ∧ w.cell? ⟨g, o, none⟩ = some (.int .i64 x.1) ∧ w.cell? ⟨g, o + 1, none⟩ = some vb ∧ w.cell? ⟨g, o + 2, none⟩ = some vk ∧ w.cell? ⟨g, o + 3, none⟩ = some (.int .i64 x.2.2.2) ∧ IntsV w x.2.1 vb ∧ IntsV w x.2.2.1 vk := by
  obtain ⟨h1, vb, vk, c0, c1, c2, c3, k1, k2⟩ := h
  exact ⟨vb, vk, h1, c0, c1, c2, c3, k1, k2⟩
end Go.Proofs.YtmiplohoclckcaaGreat
namespace Go.Proofs.YtmiplohoclckcaaGreat
open Go Go.RowKit
open G (Tok Er Ins Fun)
open Mix (Up)
/-- A loop, as it is handed on. -/
def LoopV (w : World) (x : Lp) (v : Value) : Prop := ∃ vb vk, v = .agg #[.int .i64 x.1, vb, vk, .int .i64 x.2.2.2] ∧ IntsV w x.2.1 vb ∧ IntsV w x.2.2.1 vk
theorem LoopV.below {w w' : World} {x : Lp} {v : Value} (h : LoopV w x v) (b : Below w.heap.size w w') : LoopV w' x v := by
  obtain ⟨vb, vk, e, h1, h2⟩ := h
  exact ⟨vb, vk, e, h1.below b, h2.below b⟩
theorem entryF_many {f : Fun} {x : Lp} (h : (entersK f x f.2.2.2.1.length).length ≠ 1) : entryF f x = -1 := by
  unfold entryF
  split
  · rename_i e; rw [e] at h; simp at h
  · rfl
theorem entryF_one {f : Fun} {x : Lp} {K : Nat} (h : entersK f x f.2.2.2.1.length = [(K : Int)]) : entryF f x = if (nextF f K).length = 1 then (K : Int) else -1 := by
  unfold entryF
  rw [h]
  rfl
end Go.Proofs.YtmiplohoclckcaaGreat
namespace Go.Proofs.YtmiplohoclckcaaGreat
open Go Go.RowKit
open G (Tok Er Ins Fun)
theorem tw_take {α : Type} (p : α → Bool) (l : List α) : l.takeWhile p = l.take (l.takeWhile p).length := List.prefix_iff_eq_take.1 (List.takeWhile_prefix p)
theorem tw_more {α : Type} {p : α → Bool} : ∀ (l : List α) (P : Nat) (b : α), P ≤ (l.takeWhile p).length → l[P]? = some b → p b = true → P + 1 ≤ (l.takeWhile p).length := by
  intro l
  induction l with
  | nil => intro P b _ h; simp at h
  | cons x l ih =>
    intro P b h1 h2 h3
    cases P with
    | zero =>
      simp at h2
      subst h2
      rw [List.takeWhile_cons_of_pos h3]
      simp
    | succ P =>
      cases hx : p x with
      | false => rw [List.takeWhile_cons_of_neg (by simp [hx])] at h1; simp at h1
      | true =>
        rw [List.takeWhile_cons_of_pos hx] at h1 ⊢
        have := ih P b (by simpa using h1) (by simpa using h2) h3
        simpa using this
theorem tw_stop {α : Type} {p : α → Bool} : ∀ (l : List α) (P : Nat) (b : α), P ≤ (l.takeWhile p).length → l[P]? = some b → p b = false → (l.takeWhile p).length = P := by
  intro l
  induction l with
  | nil => intro P b _ h; simp at h
  | cons x l ih =>
    intro P b h1 h2 h3
    cases P with
    | zero =>
      simp at h2
      subst h2
      rw [List.takeWhile_cons_of_neg (by simp [h3])]
      rfl
    | succ P =>
      cases hx : p x with
      | false => rw [List.takeWhile_cons_of_neg (by simp [hx])] at h1; simp at h1
      | true =>
        rw [List.takeWhile_cons_of_pos hx] at h1 ⊢
        have := ih P b (by simpa using h1) (by simpa using h2) h3
        simpa using this
theorem tw_le {α : Type} (p : α → Bool) (l : List α) : (l.takeWhile p).length ≤ l.length := (List.takeWhile_prefix p).length_le
/-- How many of the numbers so far stand ahead of a number. -/
def putAt (l : List Lp) (K : Nat) : Nat := ((innerK l K).takeWhile (fun j => decide (nB l j.toNat ≤ nB l K))).length
theorem innerK_succ (l : List Lp) (K : Nat) : innerK l (K + 1) = (innerK l K).take (putAt l K) ++ [(K : Int)] ++ (innerK l K).drop (putAt l K) := by
  unfold putAt
  rw [← tw_take]
  rfl
theorem innerK_len (l : List Lp) : ∀ K, (innerK l K).length = K := by
  intro K
  induction K with
  | zero => rfl
  | succ K ih =>
    rw [innerK_succ, List.length_append, List.length_append, List.length_take, List.length_drop, ih]
    have := tw_le (fun j => decide (nB l j.toNat ≤ nB l K)) (innerK l K)
    simp
    omega
theorem innerK_mem (l : List Lp) : ∀ (K : Nat) (k : Int), k ∈ innerK l K → ∃ J : Nat, k = J ∧ J < K := by
  intro K
  induction K with
  | zero => intro k h; simp [innerK] at h
  | succ K ih =>
    intro k h
    rw [innerK_succ, List.append_assoc, List.mem_append, List.mem_append, List.mem_singleton] at h
    rcases h with h | rfl | h
    · obtain ⟨J, e, hJ⟩ := ih k (List.mem_of_mem_take h); exact ⟨J, e, by omega⟩
    · exact ⟨K, rfl, by omega⟩
    · obtain ⟨J, e, hJ⟩ := ih k (List.mem_of_mem_drop h); exact ⟨J, e, by omega⟩
end Go.Proofs.YtmiplohoclckcaaGreat
namespace Go.Proofs.YtmiplohoclckcaaGreat
open Go Go.RowKit
open G (Tok Er Ins Fun)
open Mix (Up)
/-- What is asked of the program's functions: a property of the globals that stays, and what each function answers. -/
def Lps (G : World → Prop) : Prop :=
  (∀ {w w' : World}, G w → Below w.heap.size w w' → G w') ∧
  (∀ (f : Fun) (v : Value) (w : World), G w → FunV w f v → Lgt9 f → Calls Tryz.prog 8 #[v] w fun e w' => ∃ u, e = .returned u ∧ LoopsV w' (loopsF f) u ∧ Below w.heap.size w w') ∧
  (∀ (f : Fun) (k : Int) (v : Value) (w : World), G w → LoopsV w (loopsF f) v → Lgt9 f → R64 k → Calls Tryz.prog 11 #[v, .int .i64 k] w fun e w' => e = .returned (.int .i64 (depthL (loopsF f) k (loopsF f).length)) ∧ Below w.heap.size w w') ∧
  (∀ (f : Fun) (x : Lp) (v xv : Value) (w : World), G w → FunV w f v → LoopV w x xv → x ∈ loopsF f → Lgt9 f → Calls Tryz.prog 16 #[v, xv] w fun e w' => e = .returned (.int .i64 (entryF f x)) ∧ Below w.heap.size w w') ∧
  (∀ (f : Fun) (v : Value) (w : World), G w → LoopsV w (loopsF f) v → Lgt9 f → Calls Tryz.prog 14 #[v] w fun e w' => ∃ u, e = .returned u ∧ IntsV w' (innerF (loopsF f)) u ∧ Below w.heap.size w w')
theorem Lps.gb {G : World → Prop} (D : Lps G) : ∀ {w w' : World}, G w → Below w.heap.size w w' → G w' := D.1
theorem Lps.of {G : World → Prop} (D : Lps G) : ∀ (f : Fun) (v : Value) (w : World), G w → FunV w f v → Lgt9 f → Calls Tryz.prog 8 #[v] w fun e w' => ∃ u, e = .returned u ∧ LoopsV w' (loopsF f) u ∧ Below w.heap.size w w' := D.2.1
theorem Lps.depth {G : World → Prop} (D : Lps G) : ∀ (f : Fun) (k : Int) (v : Value) (w : World), G w → LoopsV w (loopsF f) v → Lgt9 f → R64 k → Calls Tryz.prog 11 #[v, .int .i64 k] w fun e w' => e = .returned (.int .i64 (depthL (loopsF f) k (loopsF f).length)) ∧ Below w.heap.size w w' := D.2.2.1
theorem Lps.entry {G : World → Prop} (D : Lps G) : ∀ (f : Fun) (x : Lp) (v xv : Value) (w : World), G w → FunV w f v → LoopV w x xv → x ∈ loopsF f → Lgt9 f → Calls Tryz.prog 16 #[v, xv] w fun e w' => e = .returned (.int .i64 (entryF f x)) ∧ Below w.heap.size w w' := D.2.2.2.1
theorem Lps.inner {G : World → Prop} (D : Lps G) : ∀ (f : Fun) (v : Value) (w : World), G w → LoopsV w (loopsF f) v → Lgt9 f → Calls Tryz.prog 14 #[v] w fun e w' => ∃ u, e = .returned u ∧ IntsV w' (innerF (loopsF f)) u ∧ Below w.heap.size w w' := D.2.2.2.2
theorem lit_ints (w : World) (l : List Int) (h : l.length ≤ 100) : IntsV (w.alloc (.cells (ints l).toArray 3)) l (.slice (some ⟨w.heap.size, 0, none⟩) l.length l.length) := ⟨_, _, rfl, new_sl w l 3, Nat.le_refl _, by unfold maxLen; omega⟩
theorem lit_1_2_3_4 (w : World) : IntsV (w.alloc (.cells #[.int .i64 1, .int .i64 2, .int .i64 3, .int .i64 4] 3)) [1, 2, 3, 4] (.slice (some ⟨w.heap.size, 0, none⟩) 4 4) := lit_ints w [1, 2, 3, 4] (by decide)
theorem lit_4 (w : World) : IntsV (w.alloc (.cells #[.int .i64 4] 3)) [4] (.slice (some ⟨w.heap.size, 0, none⟩) 1 1) := lit_ints w [4] (by decide)
theorem lit_0 (w : World) : IntsV (w.alloc (.cells #[.int .i64 0] 3)) [0] (.slice (some ⟨w.heap.size, 0, none⟩) 1 1) := lit_ints w [0] (by decide)
theorem fork_loops : loopsF fFork = [((1 : Int), ([1, 2, 3, 4] : List Int), ([4] : List Int), (-1 : Int))] := by decide +kernel
theorem fork_entry : entryF fFork ((1 : Int), ([1, 2, 3, 4] : List Int), ([4] : List Int), (-1 : Int)) = 0 := by decide +kernel
theorem fork_inner : innerF [((1 : Int), ([1, 2, 3, 4] : List Int), ([4] : List Int), (-1 : Int))] = [0] := by decide +kernel
def wkUp (fv sv pv0 pv1 pv2 pv3 xb yb ag : Value) (t : Tmp) : Up := match t with
  | 13 | 19 | 27 | 35 | 42 | 48 | 55 => Up.eq sv
  | 14 | 15 | 20 | 28 | 36 | 49 => Up.eq pv0
  | 16 | 43 => Up.eq (.int .i64 1)
  | 21 => Up.eq pv1
  | 22 => Up.eq xb
  | 23 => Up.ints [1, 2, 3, 4]
  | 29 => Up.eq pv2
  | 30 => Up.eq yb
  | 31 => Up.ints [4]
  | 37 => Up.eq pv3
  | 38 => Up.eq (.int .i64 (-1))
  | 47 => Up.eq fv
  | 50 => Up.eq ag
  | 51 => Up.eq (.int .i64 0)
  | 56 | 57 => Up.ints [0]
  | 0 | 17 | 18 | 24 | 25 | 26 | 32 | 33 | 34 | 39 | 40 | 41 | 44 | 45 | 46 | 52 | 53 | 54 | 58 | 59 => Up.eq (.bool true)
  | _ => Up.any
set_option maxHeartbeats 8000000 in
set_option maxRecDepth 20000 in
theorem works10_any {G : World → Prop} (D : Lps G) (w : World) (hG : G w) : Calls Tryz.prog 7 #[] w fun e w' => e = .returned (.bool true) ∧ Below w.heap.size w w' := by
  have HGw := hide hG
  have HD := hide D
  clear hG D
  go_enter Tryz.func7, Tryz.ntmps7
  go_wp2_with fail
  refine (fork_any w).mono ?_; rintro e w1 ⟨v, rfl, hv, b1⟩
  obtain ⟨vp, vb, rfl, ⟨ao, c, rfl, _⟩, ⟨bo, cb, rfl, _⟩⟩ := id hv
  have b2 := below_box w1 (.cells #[.string (bs fFork.1), .slice ao fFork.2.1.length c, .int .i64 fFork.2.2.1, .slice bo fFork.2.2.2.1.length cb, .int .i64 fFork.2.2.2.2] 25)
  have X0 := hide (L5.Box.new w1 [.string (bs [102]), .slice ao 1 c, .int .i64 0, .slice bo 7 cb, .int .i64 0] 25)
  have HV := hide (hv.below b2)
  have HB := hide (below_step b1 b2)
  clear hv b1 b2
  go_upto_region 2 with fail
  show Code.wp _ _ _ _ (w1.alloc (.cells #[.string (bs [102]), .slice ao 1 c, .int .i64 0, .slice bo 7 cb, .int .i64 0] 25))
  replace X0 : Hid (L5.Box (w1.alloc (.cells #[.string (bs [102]), .slice ao 1 c, .int .i64 0, .slice bo 7 cb, .int .i64 0] 25)) w1.heap.size [.string (bs [102]), .slice ao 1 c, .int .i64 0, .slice bo 7 cb, .int .i64 0]) := X0
  replace HV : Hid (FunV (w1.alloc (.cells #[.string (bs [102]), .slice ao 1 c, .int .i64 0, .slice bo 7 cb, .int .i64 0] 25)) fFork (.agg #[.string (bs [102]), .slice ao 1 c, .int .i64 0, .slice bo 7 cb, .int .i64 0])) := HV
  replace HB : Hid (Below w.heap.size w (w1.alloc (.cells #[.string (bs [102]), .slice ao 1 c, .int .i64 0, .slice bo 7 cb, .int .i64 0] 25))) := HB
  generalize w1.alloc (.cells #[.string (bs [102]), .slice ao 1 c, .int .i64 0, .slice bo 7 cb, .int .i64 0] 25) = W at *
  generalize w1.heap.size = q at *
  obtain ⟨x0, x1, x2, x3, x4⟩ : _ ∧ _ ∧ _ ∧ _ ∧ _ := ⟨X0.out.2 0 _ rfl, X0.out.2 1 _ rfl, X0.out.2 2 _ rfl, X0.out.2 3 _ rfl, X0.out.2 4 _ rfl⟩
  have HO := hide (HD.out.of fFork _ W (HD.out.gb HGw.out HB.out) HV.out fork_lgt)
  go_wp2_with fail
  refine HO.out.mono ?_; rintro e W1 ⟨lv, rfl, hL, b2⟩
  have HL := hide hL
  have B2 := hide (below_step HB.out b2)
  have X1 := hide (X0.out.below b2)
  have HV1 := hide (HV.out.below b2)
  rw [fork_loops] at hL
  obtain ⟨lo, lc, rfl, _, _, hl3⟩ := hL
  rcases hl3 with e0 | ⟨g, o, rfl, hlc⟩
  · cases e0
  obtain ⟨hgl, xv, yv, y0, y1, y2, y3, hX, hY⟩ := hlc 0 _ rfl
  obtain ⟨xo, xc, rfl, hx1⟩ := id hX
  obtain ⟨yo, yc, rfl, hy1⟩ := id hY
  rw [Nat.zero_mul, Nat.add_zero] at y0 y1 y2 y3
  clear x0 x1 x2 x3 x4 HO b2 HV X0 HB hlc
  have HX : ∀ w, Below W1.heap.size W1 w → IntsV w [1, 2, 3, 4] (.slice xo 4 xc) := fun w b => hX.below b
  have HY : ∀ w, Below W1.heap.size W1 w → IntsV w [4] (.slice yo 1 yc) := fun w b => hY.below b
  have r3 : R64 3 := ⟨by omega, by omega⟩
  have GW : ∀ w, Below W1.heap.size W1 w → G w := fun w b => HD.out.gb HGw.out (below_step B2.out b)
  have CD : ∀ w, Below W1.heap.size W1 w → Calls Tryz.prog 11 #[(.slice (some ⟨g, o, none⟩) 1 lc), .int .i64 3] w fun e w' => e = .returned (.int .i64 1) ∧ Below w.heap.size w w' := fun w b => by
    have h := HD.out.depth fFork 3 _ w (GW w b) (HL.out.below b) fork_lgt r3
    rw [fork_loops] at h
    exact h
  have CE : ∀ w, Below W1.heap.size W1 w → Calls Tryz.prog 16 #[(.agg #[.string (bs [102]), .slice ao 1 c, .int .i64 0, .slice bo 7 cb, .int .i64 0]), (.agg #[.int .i64 1, .slice xo 4 xc, .slice yo 1 yc, .int .i64 (-1)])] w fun e w' => e = .returned (.int .i64 0) ∧ Below w.heap.size w w' := fun w b => by
    have h := HD.out.entry fFork _ _ (.agg #[.int .i64 1, .slice xo 4 xc, .slice yo 1 yc, .int .i64 (-1)]) w (GW w b) (HV1.out.below b) ⟨_, _, rfl, HX w b, HY w b⟩ (by rw [fork_loops]; exact List.mem_singleton.2 rfl) fork_lgt
    rw [fork_entry] at h
    exact h
  have CI : ∀ w, Below W1.heap.size W1 w → Calls Tryz.prog 14 #[(.slice (some ⟨g, o, none⟩) 1 lc)] w fun e w' => ∃ v, e = .returned v ∧ Below w.heap.size w w' ∧ IntsV w' [0] v := fun w b => by
    have h := HD.out.inner fFork _ w (GW w b) (HL.out.below b) fork_lgt
    rw [fork_loops, fork_inner] at h
    exact h.mono fun e w' ⟨u, he, hu, hb⟩ => ⟨u, he, hb, hu⟩
  have xs := fun (w : World) (b : Below W1.heap.size W1 w) => And.intro ((X1.out.below b).2 0 _ rfl) (And.intro ((X1.out.below b).2 1 _ rfl) (And.intro ((X1.out.below b).2 2 _ rfl) (And.intro ((X1.out.below b).2 3 _ rfl) ((X1.out.below b).2 4 _ rfl))))
  have ys := fun (w : World) (b : Below W1.heap.size W1 w) => And.intro ((b.cell (p := ⟨g, o, none⟩) hgl).trans y0) (And.intro ((b.cell (p := ⟨g, o + 1, none⟩) hgl).trans y1) (And.intro ((b.cell (p := ⟨g, o + 2, none⟩) hgl).trans y2) ((b.cell (p := ⟨g, o + 3, none⟩) hgl).trans y3)))
  clear hX hY hx1 hy1 y0 y1 y2 y3 X1 HV1 HL r3 GW
  go_upto_region 7 with fail
  refine Mix.wp_region_mix (wkUp (.agg #[.string (bs [102]), .slice ao 1 c, .int .i64 0, .slice bo 7 cb, .int .i64 0]) (.slice (some ⟨g, o, none⟩) 1 lc) (.pointer (some ⟨g, o, none⟩)) (.pointer (some ⟨g, o + 1, none⟩)) (.pointer (some ⟨g, o + 2, none⟩)) (.pointer (some ⟨g, o + 3, none⟩)) (.slice xo 4 xc) (.slice yo 1 yc) (.agg #[.int .i64 1, .slice xo 4 xc, .slice yo 1 yc, .int .i64 (-1)])) (by kernel_rfl) (by kernel_rfl) ?_
  refine Mix.mix_step rfl (valid_eq (.slice (some ⟨g, o, none⟩) 1 lc) rfl) ?_ ?_
  · intro w b k
    clear k
    simp [go_sem]
    exact ⟨Below.refl _ _, fun d hd => by cases hd; rfl⟩
  rintro v ⟨_, _, h⟩
  obtain rfl : v = (.slice (some ⟨g, o, none⟩) 1 lc) := h _ rfl
  clear h
  simp only [Act.put, List.setIfInBounds_toArray, List.set_cons_succ, List.set_cons_zero]
  refine Mix.mix_step rfl (valid_eq (.pointer (some ⟨g, o, none⟩)) rfl) ?_ ?_
  · intro w b k
    clear k
    simp [go_sem]
    exact ⟨Below.refl _ _, fun d hd => by cases hd; rfl⟩
  rintro v ⟨_, _, h⟩
  obtain rfl : v = (.pointer (some ⟨g, o, none⟩)) := h _ rfl
  clear h
  simp only [Act.put, List.setIfInBounds_toArray, List.set_cons_succ, List.set_cons_zero]
  refine Mix.mix_step rfl (valid_eq (.pointer (some ⟨g, o, none⟩)) rfl) ?_ ?_
  · intro w b k
    clear k
    simp [go_sem]
    exact ⟨Below.refl _ _, fun d hd => by cases hd; rfl⟩
  rintro v ⟨_, _, h⟩
  obtain rfl : v = (.pointer (some ⟨g, o, none⟩)) := h _ rfl
  clear h
  simp only [Act.put, List.setIfInBounds_toArray, List.set_cons_succ, List.set_cons_zero]
  refine Mix.mix_step rfl (valid_eq (.int .i64 1) rfl) ?_ ?_
  · intro w b k
    obtain ⟨y0, y1, y2, y3⟩ := ys w b
    clear k
    simp [go_sem, y0]
    exact ⟨Below.refl _ _, fun d hd => by cases hd; rfl⟩
  rintro v ⟨_, _, h⟩
  obtain rfl : v = (.int .i64 1) := h _ rfl
  clear h
  simp only [Act.put, List.setIfInBounds_toArray, List.set_cons_succ, List.set_cons_zero]
  refine Mix.mix_step rfl (valid_eq (.bool true) rfl) ?_ ?_
  · intro w b k
    clear k
    simp [go_sem]
    exact ⟨Below.refl _ _, fun d hd => by cases hd; rfl⟩
  rintro v ⟨_, _, h⟩
  obtain rfl : v = (.bool true) := h _ rfl
  clear h
  simp only [Act.put, List.setIfInBounds_toArray, List.set_cons_succ, List.set_cons_zero]
  refine Mix.mix_step rfl (valid_eq (.bool true) rfl) ?_ ?_
  · intro w b k
    clear k
    simp [go_sem]
    exact ⟨Below.refl _ _, fun d hd => by cases hd; rfl⟩
  rintro v ⟨_, _, h⟩
  obtain rfl : v = (.bool true) := h _ rfl
  clear h
  simp only [Act.put, List.setIfInBounds_toArray, List.set_cons_succ, List.set_cons_zero]
  refine Mix.mix_step rfl (valid_eq (.slice (some ⟨g, o, none⟩) 1 lc) rfl) ?_ ?_
  · intro w b k
    clear k
    simp [go_sem]
    exact ⟨Below.refl _ _, fun d hd => by cases hd; rfl⟩
  rintro v ⟨_, _, h⟩
  obtain rfl : v = (.slice (some ⟨g, o, none⟩) 1 lc) := h _ rfl
  clear h
  simp only [Act.put, List.setIfInBounds_toArray, List.set_cons_succ, List.set_cons_zero]
  refine Mix.mix_step rfl (valid_eq (.pointer (some ⟨g, o, none⟩)) rfl) ?_ ?_
  · intro w b k
    clear k
    simp [go_sem]
    exact ⟨Below.refl _ _, fun d hd => by cases hd; rfl⟩
  rintro v ⟨_, _, h⟩
  obtain rfl : v = (.pointer (some ⟨g, o, none⟩)) := h _ rfl
  clear h
  simp only [Act.put, List.setIfInBounds_toArray, List.set_cons_succ, List.set_cons_zero]
  refine Mix.mix_step rfl (valid_eq (.pointer (some ⟨g, o + 1, none⟩)) rfl) ?_ ?_
  · intro w b k
    clear k
    simp [go_sem]
    exact ⟨Below.refl _ _, fun d hd => by cases hd; rfl⟩
  rintro v ⟨_, _, h⟩
  obtain rfl : v = (.pointer (some ⟨g, o + 1, none⟩)) := h _ rfl
  clear h
  simp only [Act.put, List.setIfInBounds_toArray, List.set_cons_succ, List.set_cons_zero]
  refine Mix.mix_step rfl (valid_eq (.slice xo 4 xc) rfl) ?_ ?_
  · intro w b k
    obtain ⟨y0, y1, y2, y3⟩ := ys w b
    clear k
    simp [go_sem, y1]
    exact ⟨Below.refl _ _, fun d hd => by cases hd; rfl⟩
  rintro v ⟨_, _, h⟩
  obtain rfl : v = (.slice xo 4 xc) := h _ rfl
  clear h
  simp only [Act.put, List.setIfInBounds_toArray, List.set_cons_succ, List.set_cons_zero]
  refine Mix.mix_step rfl ⟨.slice (some ⟨W1.heap.size, 0, none⟩) 4 4, _, below_box W1 (.cells #[.int .i64 1, .int .i64 2, .int .i64 3, .int .i64 4] 3), fun d hd => by cases hd; exact lit_1_2_3_4 W1⟩ ?_ ?_
  · intro w b k
    clear k
    simp [go_sem]
    exact ⟨below_box _ _, fun d hd => by cases hd; exact lit_1_2_3_4 w⟩
  rintro p23 -
  simp only [Act.put, List.setIfInBounds_toArray, List.set_cons_succ, List.set_cons_zero]
  refine Mix.mix_step rfl (valid_eq (.bool true) rfl) ?_ ?_
  · intro w b k
    have f1 : IntsV w [1, 2, 3, 4] p23 := k 23 (by decide +kernel) (by simp [Mix.add]) p23 rfl
    clear k
    simp [go_sem]
    exact Calls.mono (ints_any _ _ _ w (HX w b) f1) fun e w' ⟨he, hb⟩ => ⟨_, he, hb, fun d hd => by cases hd; rfl⟩
  rintro v ⟨_, _, h⟩
  obtain rfl : v = (.bool true) := h _ rfl
  clear h
  simp only [Act.put, List.setIfInBounds_toArray, List.set_cons_succ, List.set_cons_zero]
  refine Mix.mix_step rfl (valid_eq (.bool true) rfl) ?_ ?_
  · intro w b k
    clear k
    simp [go_sem]
    exact ⟨Below.refl _ _, fun d hd => by cases hd; rfl⟩
  rintro v ⟨_, _, h⟩
  obtain rfl : v = (.bool true) := h _ rfl
  clear h
  simp only [Act.put, List.setIfInBounds_toArray, List.set_cons_succ, List.set_cons_zero]
  refine Mix.mix_step rfl (valid_eq (.bool true) rfl) ?_ ?_
  · intro w b k
    clear k
    simp [go_sem]
    exact ⟨Below.refl _ _, fun d hd => by cases hd; rfl⟩
  rintro v ⟨_, _, h⟩
  obtain rfl : v = (.bool true) := h _ rfl
  clear h
  simp only [Act.put, List.setIfInBounds_toArray, List.set_cons_succ, List.set_cons_zero]
  refine Mix.mix_step rfl (valid_eq (.slice (some ⟨g, o, none⟩) 1 lc) rfl) ?_ ?_
  · intro w b k
    clear k
    simp [go_sem]
    exact ⟨Below.refl _ _, fun d hd => by cases hd; rfl⟩
  rintro v ⟨_, _, h⟩
  obtain rfl : v = (.slice (some ⟨g, o, none⟩) 1 lc) := h _ rfl
  clear h
  simp only [Act.put, List.setIfInBounds_toArray, List.set_cons_succ, List.set_cons_zero]
  refine Mix.mix_step rfl (valid_eq (.pointer (some ⟨g, o, none⟩)) rfl) ?_ ?_
  · intro w b k
    clear k
    simp [go_sem]
    exact ⟨Below.refl _ _, fun d hd => by cases hd; rfl⟩
  rintro v ⟨_, _, h⟩
  obtain rfl : v = (.pointer (some ⟨g, o, none⟩)) := h _ rfl
  clear h
  simp only [Act.put, List.setIfInBounds_toArray, List.set_cons_succ, List.set_cons_zero]
  refine Mix.mix_step rfl (valid_eq (.pointer (some ⟨g, o + 2, none⟩)) rfl) ?_ ?_
  · intro w b k
    clear k
    simp [go_sem]
    exact ⟨Below.refl _ _, fun d hd => by cases hd; rfl⟩
  rintro v ⟨_, _, h⟩
  obtain rfl : v = (.pointer (some ⟨g, o + 2, none⟩)) := h _ rfl
  clear h
  simp only [Act.put, List.setIfInBounds_toArray, List.set_cons_succ, List.set_cons_zero]
  refine Mix.mix_step rfl (valid_eq (.slice yo 1 yc) rfl) ?_ ?_
  · intro w b k
    obtain ⟨y0, y1, y2, y3⟩ := ys w b
    clear k
    simp [go_sem, y2]
    exact ⟨Below.refl _ _, fun d hd => by cases hd; rfl⟩
  rintro v ⟨_, _, h⟩
  obtain rfl : v = (.slice yo 1 yc) := h _ rfl
  clear h
  simp only [Act.put, List.setIfInBounds_toArray, List.set_cons_succ, List.set_cons_zero]
  refine Mix.mix_step rfl ⟨.slice (some ⟨W1.heap.size, 0, none⟩) 1 1, _, below_box W1 (.cells #[.int .i64 4] 3), fun d hd => by cases hd; exact lit_4 W1⟩ ?_ ?_
  · intro w b k
    clear k
    simp [go_sem]
    exact ⟨below_box _ _, fun d hd => by cases hd; exact lit_4 w⟩
  rintro p31 -
  simp only [Act.put, List.setIfInBounds_toArray, List.set_cons_succ, List.set_cons_zero]
  refine Mix.mix_step rfl (valid_eq (.bool true) rfl) ?_ ?_
  · intro w b k
    have f1 : IntsV w [4] p31 := k 31 (by decide +kernel) (by simp [Mix.add]) p31 rfl
    clear k
    simp [go_sem]
    exact Calls.mono (ints_any _ _ _ w (HY w b) f1) fun e w' ⟨he, hb⟩ => ⟨_, he, hb, fun d hd => by cases hd; rfl⟩
  rintro v ⟨_, _, h⟩
  obtain rfl : v = (.bool true) := h _ rfl
  clear h
  simp only [Act.put, List.setIfInBounds_toArray, List.set_cons_succ, List.set_cons_zero]
  refine Mix.mix_step rfl (valid_eq (.bool true) rfl) ?_ ?_
  · intro w b k
    clear k
    simp [go_sem]
    exact ⟨Below.refl _ _, fun d hd => by cases hd; rfl⟩
  rintro v ⟨_, _, h⟩
  obtain rfl : v = (.bool true) := h _ rfl
  clear h
  simp only [Act.put, List.setIfInBounds_toArray, List.set_cons_succ, List.set_cons_zero]
  refine Mix.mix_step rfl (valid_eq (.bool true) rfl) ?_ ?_
  · intro w b k
    clear k
    simp [go_sem]
    exact ⟨Below.refl _ _, fun d hd => by cases hd; rfl⟩
  rintro v ⟨_, _, h⟩
  obtain rfl : v = (.bool true) := h _ rfl
  clear h
  simp only [Act.put, List.setIfInBounds_toArray, List.set_cons_succ, List.set_cons_zero]
  refine Mix.mix_step rfl (valid_eq (.slice (some ⟨g, o, none⟩) 1 lc) rfl) ?_ ?_
  · intro w b k
    clear k
    simp [go_sem]
    exact ⟨Below.refl _ _, fun d hd => by cases hd; rfl⟩
  rintro v ⟨_, _, h⟩
  obtain rfl : v = (.slice (some ⟨g, o, none⟩) 1 lc) := h _ rfl
  clear h
  simp only [Act.put, List.setIfInBounds_toArray, List.set_cons_succ, List.set_cons_zero]
  refine Mix.mix_step rfl (valid_eq (.pointer (some ⟨g, o, none⟩)) rfl) ?_ ?_
  · intro w b k
    clear k
    simp [go_sem]
    exact ⟨Below.refl _ _, fun d hd => by cases hd; rfl⟩
  rintro v ⟨_, _, h⟩
  obtain rfl : v = (.pointer (some ⟨g, o, none⟩)) := h _ rfl
  clear h
  simp only [Act.put, List.setIfInBounds_toArray, List.set_cons_succ, List.set_cons_zero]
  refine Mix.mix_step rfl (valid_eq (.pointer (some ⟨g, o + 3, none⟩)) rfl) ?_ ?_
  · intro w b k
    clear k
    simp [go_sem]
    exact ⟨Below.refl _ _, fun d hd => by cases hd; rfl⟩
  rintro v ⟨_, _, h⟩
  obtain rfl : v = (.pointer (some ⟨g, o + 3, none⟩)) := h _ rfl
  clear h
  simp only [Act.put, List.setIfInBounds_toArray, List.set_cons_succ, List.set_cons_zero]
  refine Mix.mix_step rfl (valid_eq (.int .i64 (-1)) rfl) ?_ ?_
  · intro w b k
    obtain ⟨y0, y1, y2, y3⟩ := ys w b
    clear k
    simp [go_sem, y3]
    exact ⟨Below.refl _ _, fun d hd => by cases hd; rfl⟩
  rintro v ⟨_, _, h⟩
  obtain rfl : v = (.int .i64 (-1)) := h _ rfl
  clear h
  simp only [Act.put, List.setIfInBounds_toArray, List.set_cons_succ, List.set_cons_zero]
  refine Mix.mix_step rfl (valid_eq (.bool true) rfl) ?_ ?_
  · intro w b k
    clear k
    simp [go_sem]
    exact ⟨Below.refl _ _, fun d hd => by cases hd; rfl⟩
  rintro v ⟨_, _, h⟩
  obtain rfl : v = (.bool true) := h _ rfl
  clear h
  simp only [Act.put, List.setIfInBounds_toArray, List.set_cons_succ, List.set_cons_zero]
  refine Mix.mix_step rfl (valid_eq (.bool true) rfl) ?_ ?_
  · intro w b k
    clear k
    simp [go_sem]
    exact ⟨Below.refl _ _, fun d hd => by cases hd; rfl⟩
  rintro v ⟨_, _, h⟩
  obtain rfl : v = (.bool true) := h _ rfl
  clear h
  simp only [Act.put, List.setIfInBounds_toArray, List.set_cons_succ, List.set_cons_zero]
  refine Mix.mix_step rfl (valid_eq (.bool true) rfl) ?_ ?_
  · intro w b k
    clear k
    simp [go_sem]
    exact ⟨Below.refl _ _, fun d hd => by cases hd; rfl⟩
  rintro v ⟨_, _, h⟩
  obtain rfl : v = (.bool true) := h _ rfl
  clear h
  simp only [Act.put, List.setIfInBounds_toArray, List.set_cons_succ, List.set_cons_zero]
  refine Mix.mix_step rfl (valid_eq (.slice (some ⟨g, o, none⟩) 1 lc) rfl) ?_ ?_
  · intro w b k
    clear k
    simp [go_sem]
    exact ⟨Below.refl _ _, fun d hd => by cases hd; rfl⟩
  rintro v ⟨_, _, h⟩
  obtain rfl : v = (.slice (some ⟨g, o, none⟩) 1 lc) := h _ rfl
  clear h
  simp only [Act.put, List.setIfInBounds_toArray, List.set_cons_succ, List.set_cons_zero]
  refine Mix.mix_step rfl (valid_eq (.int .i64 1) rfl) ?_ ?_
  · intro w b k
    clear k
    simp [go_sem]
    exact Calls.mono (CD w b) fun e w' ⟨he, hb⟩ => ⟨_, he, hb, fun d hd => by cases hd; rfl⟩
  rintro v ⟨_, _, h⟩
  obtain rfl : v = (.int .i64 1) := h _ rfl
  clear h
  simp only [Act.put, List.setIfInBounds_toArray, List.set_cons_succ, List.set_cons_zero]
  refine Mix.mix_step rfl (valid_eq (.bool true) rfl) ?_ ?_
  · intro w b k
    clear k
    simp [go_sem]
    exact ⟨Below.refl _ _, fun d hd => by cases hd; rfl⟩
  rintro v ⟨_, _, h⟩
  obtain rfl : v = (.bool true) := h _ rfl
  clear h
  simp only [Act.put, List.setIfInBounds_toArray, List.set_cons_succ, List.set_cons_zero]
  refine Mix.mix_step rfl (valid_eq (.bool true) rfl) ?_ ?_
  · intro w b k
    clear k
    simp [go_sem]
    exact ⟨Below.refl _ _, fun d hd => by cases hd; rfl⟩
  rintro v ⟨_, _, h⟩
  obtain rfl : v = (.bool true) := h _ rfl
  clear h
  simp only [Act.put, List.setIfInBounds_toArray, List.set_cons_succ, List.set_cons_zero]
  refine Mix.mix_step rfl (valid_eq (.bool true) rfl) ?_ ?_
  · intro w b k
    clear k
    simp [go_sem]
    exact ⟨Below.refl _ _, fun d hd => by cases hd; rfl⟩
  rintro v ⟨_, _, h⟩
  obtain rfl : v = (.bool true) := h _ rfl
  clear h
  simp only [Act.put, List.setIfInBounds_toArray, List.set_cons_succ, List.set_cons_zero]
  refine Mix.mix_step rfl (valid_eq (.agg #[.string (bs [102]), .slice ao 1 c, .int .i64 0, .slice bo 7 cb, .int .i64 0]) rfl) ?_ ?_
  · intro w b k
    obtain ⟨x0, x1, x2, x3, x4⟩ := xs w b
    clear k
    simp [go_sem, x0, x1, x2, x3, x4]
    exact ⟨Below.refl _ _, fun d hd => by cases hd; rfl⟩
  rintro v ⟨_, _, h⟩
  obtain rfl : v = (.agg #[.string (bs [102]), .slice ao 1 c, .int .i64 0, .slice bo 7 cb, .int .i64 0]) := h _ rfl
  clear h
  simp only [Act.put, List.setIfInBounds_toArray, List.set_cons_succ, List.set_cons_zero]
  refine Mix.mix_step rfl (valid_eq (.slice (some ⟨g, o, none⟩) 1 lc) rfl) ?_ ?_
  · intro w b k
    clear k
    simp [go_sem]
    exact ⟨Below.refl _ _, fun d hd => by cases hd; rfl⟩
  rintro v ⟨_, _, h⟩
  obtain rfl : v = (.slice (some ⟨g, o, none⟩) 1 lc) := h _ rfl
  clear h
  simp only [Act.put, List.setIfInBounds_toArray, List.set_cons_succ, List.set_cons_zero]
  refine Mix.mix_step rfl (valid_eq (.pointer (some ⟨g, o, none⟩)) rfl) ?_ ?_
  · intro w b k
    clear k
    simp [go_sem]
    exact ⟨Below.refl _ _, fun d hd => by cases hd; rfl⟩
  rintro v ⟨_, _, h⟩
  obtain rfl : v = (.pointer (some ⟨g, o, none⟩)) := h _ rfl
  clear h
  simp only [Act.put, List.setIfInBounds_toArray, List.set_cons_succ, List.set_cons_zero]
  refine Mix.mix_step rfl (valid_eq (.agg #[.int .i64 1, .slice xo 4 xc, .slice yo 1 yc, .int .i64 (-1)]) rfl) ?_ ?_
  · intro w b k
    obtain ⟨y0, y1, y2, y3⟩ := ys w b
    clear k
    simp [go_sem, y0, y1, y2, y3]
    exact ⟨Below.refl _ _, fun d hd => by cases hd; rfl⟩
  rintro v ⟨_, _, h⟩
  obtain rfl : v = (.agg #[.int .i64 1, .slice xo 4 xc, .slice yo 1 yc, .int .i64 (-1)]) := h _ rfl
  clear h
  simp only [Act.put, List.setIfInBounds_toArray, List.set_cons_succ, List.set_cons_zero]
  refine Mix.mix_step rfl (valid_eq (.int .i64 0) rfl) ?_ ?_
  · intro w b k
    clear k
    simp [go_sem]
    exact Calls.mono (CE w b) fun e w' ⟨he, hb⟩ => ⟨_, he, hb, fun d hd => by cases hd; rfl⟩
  rintro v ⟨_, _, h⟩
  obtain rfl : v = (.int .i64 0) := h _ rfl
  clear h
  simp only [Act.put, List.setIfInBounds_toArray, List.set_cons_succ, List.set_cons_zero]
  refine Mix.mix_step rfl (valid_eq (.bool true) rfl) ?_ ?_
  · intro w b k
    clear k
    simp [go_sem]
    exact ⟨Below.refl _ _, fun d hd => by cases hd; rfl⟩
  rintro v ⟨_, _, h⟩
  obtain rfl : v = (.bool true) := h _ rfl
  clear h
  simp only [Act.put, List.setIfInBounds_toArray, List.set_cons_succ, List.set_cons_zero]
  refine Mix.mix_step rfl (valid_eq (.bool true) rfl) ?_ ?_
  · intro w b k
    clear k
    simp [go_sem]
    exact ⟨Below.refl _ _, fun d hd => by cases hd; rfl⟩
  rintro v ⟨_, _, h⟩
  obtain rfl : v = (.bool true) := h _ rfl
  clear h
  simp only [Act.put, List.setIfInBounds_toArray, List.set_cons_succ, List.set_cons_zero]
  refine Mix.mix_step rfl (valid_eq (.bool true) rfl) ?_ ?_
  · intro w b k
    clear k
    simp [go_sem]
    exact ⟨Below.refl _ _, fun d hd => by cases hd; rfl⟩
  rintro v ⟨_, _, h⟩
  obtain rfl : v = (.bool true) := h _ rfl
  clear h
  simp only [Act.put, List.setIfInBounds_toArray, List.set_cons_succ, List.set_cons_zero]
  refine Mix.mix_step rfl (valid_eq (.slice (some ⟨g, o, none⟩) 1 lc) rfl) ?_ ?_
  · intro w b k
    clear k
    simp [go_sem]
    exact ⟨Below.refl _ _, fun d hd => by cases hd; rfl⟩
  rintro v ⟨_, _, h⟩
  obtain rfl : v = (.slice (some ⟨g, o, none⟩) 1 lc) := h _ rfl
  clear h
  simp only [Act.put, List.setIfInBounds_toArray, List.set_cons_succ, List.set_cons_zero]
  refine Mix.mix_step rfl (valid_of (CI W1 (Below.refl _ _))) ?_ ?_
  · intro w b k
    clear k
    simp [go_sem]
    exact Calls.mono (CI w b) fun e w' ⟨v, he, hb, hf⟩ => ⟨v, he, hb, fun d hd => by cases hd; exact hf⟩
  rintro p56 -
  simp only [Act.put, List.setIfInBounds_toArray, List.set_cons_succ, List.set_cons_zero]
  refine Mix.mix_step rfl ⟨.slice (some ⟨W1.heap.size, 0, none⟩) 1 1, _, below_box W1 (.cells #[.int .i64 0] 3), fun d hd => by cases hd; exact lit_0 W1⟩ ?_ ?_
  · intro w b k
    clear k
    simp [go_sem]
    exact ⟨below_box _ _, fun d hd => by cases hd; exact lit_0 w⟩
  rintro p57 -
  simp only [Act.put, List.setIfInBounds_toArray, List.set_cons_succ, List.set_cons_zero]
  refine Mix.mix_step rfl (valid_eq (.bool true) rfl) ?_ ?_
  · intro w b k
    have f1 : IntsV w [0] p56 := k 56 (by decide +kernel) (by simp [Mix.add]) p56 rfl
    have f2 : IntsV w [0] p57 := k 57 (by decide +kernel) (by simp [Mix.add]) p57 rfl
    clear k
    simp [go_sem]
    exact Calls.mono (ints_any _ _ _ w f1 f2) fun e w' ⟨he, hb⟩ => ⟨_, he, hb, fun d hd => by cases hd; rfl⟩
  rintro v ⟨_, _, h⟩
  obtain rfl : v = (.bool true) := h _ rfl
  clear h
  simp only [Act.put, List.setIfInBounds_toArray, List.set_cons_succ, List.set_cons_zero]
  refine Mix.mix_step rfl (valid_eq (.bool true) rfl) ?_ ?_
  · intro w b k
    clear k
    simp [go_sem]
    exact ⟨Below.refl _ _, fun d hd => by cases hd; rfl⟩
  rintro v ⟨_, _, h⟩
  obtain rfl : v = (.bool true) := h _ rfl
  clear h
  simp only [Act.put, List.setIfInBounds_toArray, List.set_cons_succ, List.set_cons_zero]
  refine Mix.mix_step rfl (valid_eq (.bool true) rfl) ?_ ?_
  · intro w b k
    clear k
    simp [go_sem]
    exact ⟨Below.refl _ _, fun d hd => by cases hd; rfl⟩
  rintro v ⟨_, _, h⟩
  obtain rfl : v = (.bool true) := h _ rfl
  clear h
  simp only [Act.put, List.setIfInBounds_toArray, List.set_cons_zero]
  refine Mix.mix_nil ?_
  intro w4 b4 hk4
  have HE := hide (below_step B2.out b4)
  clear HX HY CD CE CI xs ys b4 hk4
  go_wp2_with fail
  go_ret
  exact ⟨rfl, HE.out⟩
end Go.Proofs.YtmiplohoclckcaaGreat
namespace Go.Proofs.YtmiplohoclckcaaGreat
open Go Go.RowKit
open G (Tok Er Ins Fun)
open Mix (Up)
def Up.loops (l : List Lp) : Up := ⟨fun v w => LoopsV w l v, fun _ _ _ b h => h.below b⟩
end Go.Proofs.YtmiplohoclckcaaGreat
