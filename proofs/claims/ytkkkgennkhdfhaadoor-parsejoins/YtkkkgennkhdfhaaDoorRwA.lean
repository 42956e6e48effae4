/- Programs in memory, read. -/
import Derived.Test.YtkkkgennkhdfhaaDoorWm
namespace Go.Proofs.YtkkkgennkhdfhaaDoor
open Go Go.RowKit
open G (Tok Er Ins Fun)

/-- What a walk reads of a list that is owned. -/
theorem own_view {w : World} {B e s n : Nat} {v : Value} {xs : List Value} (h : w.ownsRow B e s v n xs) : (v = .slice none 0 0 ∧ n = 0) ∨ ∃ g cap, v = .slice (some ⟨g, 0, none⟩) n cap ∧ n ≤ cap ∧ cap ≤ maxLen ∧ B ≤ g ∧ g < w.heap.size ∧ (∀ j u, xs[j]? = some u → w.cell? ⟨g, j, none⟩ = some u) ∧ ∀ j, w.frozen? ⟨g, j, none⟩ = false := by
  rcases h.2 with ⟨hv, hn⟩ | ⟨g, cap, cur, hv2, hbb, hg, hc1, hc2, hc3, hc4⟩
  · exact .inl ⟨hv, hn⟩
  · refine .inr ⟨g, cap, hv2, hc1, hc2, hbb, (Array.getElem?_eq_some_iff.1 hg).1, fun j u hj => ?_, fun j => by simp [World.frozen?, hg]⟩
    have := h.cells (g := g) (by rw [hv2]; rfl) j u hj
    rwa [Addr.add_lit, Nat.zero_add] at this
theorem FRow.at {B : Nat} {w : World} : ∀ (l : List Fun) (cs : List Value) (i : Nat) (x : Fun), FRow B w l cs → l[i]? = some x → ∃ vp vb, (∀ j u, (funCells x vp vb)[j]? = some u → cs[i * 5 + j]? = some u) ∧ w.ownsRow B 3 1 vp x.2.1.length (ints x.2.1) ∧ BlksVal B x.2.2.2.1 vb w := by
  intro l
  induction l with
  | nil => intro cs i x _ h; simp at h
  | cons y r ih =>
    rintro cs i x ⟨vp, vb, rest, rfl, h1, h2, h3⟩ hi
    cases i with
    | zero =>
      simp at hi; subst hi
      refine ⟨vp, vb, fun j u hj => ?_, h1, h2⟩
      have hl : j < (funCells y vp vb).length := (List.getElem?_eq_some_iff.1 hj).1
      rw [show 0 * 5 + j = j by omega, List.getElem?_append_left hl]; exact hj
    | succ i =>
      obtain ⟨up, ub, k1, k2, k3⟩ := ih rest i x h3 (by simpa using hi)
      refine ⟨up, ub, fun j u hj => ?_, k2, k3⟩
      have hl : (funCells y vp vb).length = 5 := rfl
      rw [List.getElem?_append_right (by rw [hl]; omega), hl, show (i + 1) * 5 + j - 5 = i * 5 + j by omega]
      exact k1 j u hj
theorem InsRow.at {B : Nat} {w : World} : ∀ (l : List Ins) (cs : List Value) (i : Nat) (x : Ins), InsRow B w l cs → l[i]? = some x → ∃ va vt, (∀ j u, (insCells x va vt)[j]? = some u → cs[i * 8 + j]? = some u) ∧ w.ownsRow B 3 1 va x.2.2.2.2.1.length (ints x.2.2.2.2.1) ∧ w.ownsRow B 3 1 vt x.2.2.2.2.2.1.length (ints x.2.2.2.2.2.1) := by
  intro l
  induction l with
  | nil => intro cs i x _ h; simp at h
  | cons y r ih =>
    rintro cs i x ⟨vp, vb, rest, rfl, h1, h2, h3⟩ hi
    cases i with
    | zero =>
      simp at hi; subst hi
      refine ⟨vp, vb, fun j u hj => ?_, h1, h2⟩
      have hl : j < (insCells y vp vb).length := (List.getElem?_eq_some_iff.1 hj).1
      rw [show 0 * 8 + j = j by omega, List.getElem?_append_left hl]; exact hj
    | succ i =>
      obtain ⟨up, ub, k1, k2, k3⟩ := ih rest i x h3 (by simpa using hi)
      refine ⟨up, ub, fun j u hj => ?_, k2, k3⟩
      have hl : (insCells y vp vb).length = 8 := rfl
      rw [List.getElem?_append_right (by rw [hl]; omega), hl, show (i + 1) * 8 + j - 8 = i * 8 + j by omega]
      exact k1 j u hj
theorem BRow.at {B : Nat} {w : World} : ∀ (l : List (List Ins)) (vs : List Value) (i : Nat) (b : List Ins), BRow B w l vs → l[i]? = some b → ∃ v, vs[i]? = some v ∧ BlkVal B b v w := by
  intro l
  induction l with
  | nil => intro cs i x _ h; simp at h
  | cons y r ih =>
    rintro cs i x ⟨v, rest, rfl, h1, h2⟩ hi
    cases i with
    | zero => simp at hi; subst hi; exact ⟨v, by simp, h1⟩
    | succ i =>
      obtain ⟨u, k1, k2⟩ := ih rest i x h2 (by simpa using hi)
      exact ⟨u, by simpa using k1, k2⟩
/-- A function of a program, and where its cells stand. -/
theorem ProgVal.fn {B : Nat} {xs : List Fun} {ao : Option Addr} {m cap : Nat} {w : World} (h : ProgVal B xs (.slice ao m cap) w) (i : Nat) (x : Fun) (hi : xs[i]? = some x) : ∃ g vp vb, ao = some ⟨g, 0, none⟩ ∧ m = xs.length ∧ m ≤ cap ∧ cap ≤ maxLen ∧ (∀ j u, (funCells x vp vb)[j]? = some u → w.cell? ⟨g, i * 5 + j, none⟩ = some u) ∧ w.ownsRow B 3 1 vp x.2.1.length (ints x.2.1) ∧ BlksVal B x.2.2.2.1 vb w := by
  obtain ⟨cs, h1, h2⟩ := h
  have hl := (List.getElem?_eq_some_iff.1 hi).1
  rcases own_view h1 with ⟨hv, hn⟩ | ⟨g, cap', hv, a1, a2, a3, a4, a5, a6⟩
  · omega
  · injection hv with e1 e2 e3
    subst e1 e2 e3
    obtain ⟨vp, vb, k1, k2, k3⟩ := FRow.at _ _ i x h2 hi
    exact ⟨g, vp, vb, rfl, rfl, a1, a2, fun j u hj => a5 _ _ (k1 j u hj), k2, k3⟩
theorem BlksVal.blk {B : Nat} {xs : List (List Ins)} {ao : Option Addr} {m cap : Nat} {w : World} (h : BlksVal B xs (.slice ao m cap) w) (i : Nat) (b : List Ins) (hi : xs[i]? = some b) : ∃ g v, ao = some ⟨g, 0, none⟩ ∧ m = xs.length ∧ m ≤ cap ∧ cap ≤ maxLen ∧ w.cell? ⟨g, i, none⟩ = some v ∧ BlkVal B b v w := by
  obtain ⟨cs, h1, h2⟩ := h
  have hl := (List.getElem?_eq_some_iff.1 hi).1
  rcases own_view h1 with ⟨hv, hn⟩ | ⟨g, cap', hv, a1, a2, a3, a4, a5, a6⟩
  · omega
  · injection hv with e1 e2 e3
    subst e1 e2 e3
    obtain ⟨v, k1, k2⟩ := BRow.at _ _ i b h2 hi
    exact ⟨g, v, rfl, rfl, a1, a2, a5 _ _ k1, k2⟩
theorem BlkVal.ins {B : Nat} {xs : List Ins} {ao : Option Addr} {m cap : Nat} {w : World} (h : BlkVal B xs (.slice ao m cap) w) (i : Nat) (x : Ins) (hi : xs[i]? = some x) : ∃ g va vt, ao = some ⟨g, 0, none⟩ ∧ m = xs.length ∧ m ≤ cap ∧ cap ≤ maxLen ∧ (∀ j u, (insCells x va vt)[j]? = some u → w.cell? ⟨g, i * 8 + j, none⟩ = some u) ∧ w.ownsRow B 3 1 va x.2.2.2.2.1.length (ints x.2.2.2.2.1) ∧ w.ownsRow B 3 1 vt x.2.2.2.2.2.1.length (ints x.2.2.2.2.2.1) := by
  obtain ⟨cs, h1, h2⟩ := h
  have hl := (List.getElem?_eq_some_iff.1 hi).1
  rcases own_view h1 with ⟨hv, hn⟩ | ⟨g, cap', hv, a1, a2, a3, a4, a5, a6⟩
  · omega
  · injection hv with e1 e2 e3
    subst e1 e2 e3
    obtain ⟨va, vt, k1, k2, k3⟩ := InsRow.at _ _ i x h2 hi
    exact ⟨g, va, vt, rfl, rfl, a1, a2, fun j u hj => a5 _ _ (k1 j u hj), k2, k3⟩
theorem BlksVal.len {B : Nat} {xs : List (List Ins)} {v : Value} {w : World} (h : BlksVal B xs v w) : ∃ ao cap, v = .slice ao xs.length cap := by
  obtain ⟨cs, h1, h2⟩ := h; exact own_len h1
theorem BlkVal.len {B : Nat} {xs : List Ins} {v : Value} {w : World} (h : BlkVal B xs v w) : ∃ ao cap, v = .slice ao xs.length cap := by
  obtain ⟨cs, h1, h2⟩ := h; exact own_len h1
theorem ProgVal.len {B : Nat} {xs : List Fun} {v : Value} {w : World} (h : ProgVal B xs v w) : ∃ ao cap, v = .slice ao xs.length cap := by
  obtain ⟨cs, h1, h2⟩ := h; exact own_len h1
theorem ProgVal.below {B : Nat} {xs : List Fun} {v : Value} {w w' : World} (h : ProgVal B xs v w) (b : Below w.heap.size w w') : ProgVal B xs v w' := by
  obtain ⟨cs, h1, h2⟩ := h
  exact ⟨cs, own_below b _ _ _ _ _ _ h1, FRow.stay (stay_below b) _ _ h2⟩
/-- Two boxes with what Text answered. -/
def boxes (w : World) (v a b : Value) : World := (w.alloc (.cells #[v] 25)).alloc (.cells #[a, b] 28)
theorem boxes_ok (w : World) (v a b : Value) : Below w.heap.size w (boxes w v a b) ∧ (boxes w v a b).heap[w.heap.size]? = some (.cells #[v] 25 (0, 0)) ∧ (boxes w v a b).heap[w.heap.size + 1]? = some (.cells #[a, b] 28 (0, 0)) := by
  refine ⟨below_step (below_box w _) (below_box _ _), (heap_alloc_old _ _ (by simp)).trans (heap_alloc_new w _), ?_⟩
  have := heap_alloc_new (w.alloc (.cells #[v] 25)) (.cells #[a, b] 28)
  rwa [show (w.alloc (.cells #[v] 25)).heap.size = w.heap.size + 1 from by simp] at this
theorem small_any (w : World) : Calls Tryd.prog 13 #[] w fun e w' => e = .returned (.string sSmall) ∧ w' = w := by
  go_enter Tryd.func13, Tryd.ntmps13
  go_wp2_with fail
  go_ret
  exact ⟨rfl, rfl⟩
end Go.Proofs.YtkkkgennkhdfhaaDoor
