/- Layer 12, the reference's objects in memory: the cells of a row, one more, one other; a row that is copied. -/
import Derived.Test.YthmeafnofckoiaaDoorPrB
namespace Go.Proofs.YthmeafnofckoiaaDoor
open Go Go.RowKit
open Layertwelve (Ob trapF objN loadF storeF slotF wordsF shapeF makeF firstF slotsF goF reachF)

/-- An object's slots stand in a block that is not among some. -/
def InX (F : Nat → Prop) (w : World) (s : List Int) (b : Nat) : Prop := b < w.heap.size ∧ ¬ F b ∧ ∀ i n, s[i]? = some n → w.cell? ⟨b, i, none⟩ = some (.int .i64 n)
theorem InX.below {F : Nat → Prop} {w w' : World} {s : List Int} {b : Nat} (h : InX F w s b) (bl : Below w.heap.size w w') : InX F w' s b :=
  ⟨Nat.lt_of_lt_of_le h.1 bl.size, h.2.1, fun i n hi => (bl.cell (p := ⟨b, i, none⟩) h.1).trans (h.2.2 i n hi)⟩
/-- These cells are these objects'. -/
def RawF (F : Nat → Prop) (w : World) (l : List Ob) (raw : List Value) : Prop := raw.length = l.length * 3 ∧ ∀ i (x : Ob), l[i]? = some x → ∃ b c, raw[i * 3]? = some (.int .i64 (x.1.1 : Int)) ∧ raw[i * 3 + 1]? = some (.int .i64 (x.1.2 : Int)) ∧ raw[i * 3 + 2]? = some (.slice (some ⟨b, 0, none⟩) x.2.length c) ∧
  InX F w x.2 b ∧ x.2.length ≤ c ∧ c ≤ maxLen
theorem RawF.below {F : Nat → Prop} {w w' : World} {l : List Ob} {raw : List Value} (h : RawF F w l raw) (bl : Below w.heap.size w w') : RawF F w' l raw :=
  ⟨h.1, fun i x hi => by
    obtain ⟨b, c, h1, h2, h3, h4, h5⟩ := h.2 i x hi
    exact ⟨b, c, h1, h2, h3, h4.below bl, h5⟩⟩
theorem RawF.nil (F : Nat → Prop) (w : World) : RawF F w [] [] := ⟨rfl, fun i x hi => by simp at hi⟩
theorem RawF.snoc {F : Nat → Prop} {w : World} {l : List Ob} {raw : List Value} (h : RawF F w l raw) (x : Ob) (b c : Nat) (hb : InX F w x.2 b) (h1 : x.2.length ≤ c) (h2 : c ≤ maxLen) :
    RawF F w (l ++ [x]) (raw ++ [.int .i64 (x.1.1 : Int), .int .i64 (x.1.2 : Int), .slice (some ⟨b, 0, none⟩) x.2.length c]) := by
  refine ⟨by simp [h.1]; omega, fun i y hi => ?_⟩
  have hl := (List.getElem?_eq_some_iff.1 hi).1
  by_cases e : i < l.length
  · rw [List.getElem?_append_left e] at hi
    obtain ⟨b', c', k1, k2, k3, k4⟩ := h.2 i y hi
    have hr := h.1
    exact ⟨b', c', by rw [List.getElem?_append_left (by omega)]; exact k1, by rw [List.getElem?_append_left (by omega)]; exact k2, by rw [List.getElem?_append_left (by omega)]; exact k3, k4⟩
  · have e2 : i = l.length := by simp at hl; omega
    subst e2
    rw [List.getElem?_append_right (Nat.le_refl _)] at hi
    simp at hi
    subst hi
    have hr := h.1
    refine ⟨b, c, ?_, ?_, ?_, hb, h1, h2⟩
    · rw [List.getElem?_append_right (by omega), show l.length * 3 - raw.length = 0 by omega]; rfl
    · rw [List.getElem?_append_right (by omega), show l.length * 3 + 1 - raw.length = 1 by omega]; rfl
    · rw [List.getElem?_append_right (by omega), show l.length * 3 + 2 - raw.length = 2 by omega]; rfl
theorem set3_other {raw : List Value} {i j : Nat} {a b c : Value} (h : j ≠ i * 3 ∧ j ≠ i * 3 + 1 ∧ j ≠ i * 3 + 2) : (((raw.set (i * 3) a).set (i * 3 + 1) b).set (i * 3 + 2) c)[j]? = raw[j]? := by
  rw [List.getElem?_set_ne (by omega), List.getElem?_set_ne (by omega), List.getElem?_set_ne (by omega)]
theorem RawF.put {F : Nat → Prop} {w : World} {l : List Ob} {raw : List Value} (h : RawF F w l raw) {i : Nat} (hi : i < l.length) (x : Ob) (b c : Nat) (hb : InX F w x.2 b) (h1 : x.2.length ≤ c) (h2 : c ≤ maxLen) :
    RawF F w (l.set i x) (((raw.set (i * 3) (.int .i64 (x.1.1 : Int))).set (i * 3 + 1) (.int .i64 (x.1.2 : Int))).set (i * 3 + 2) (.slice (some ⟨b, 0, none⟩) x.2.length c)) := by
  have hr := h.1
  refine ⟨by simp [h.1], fun j y hj => ?_⟩
  by_cases e : j = i
  · subst e
    rw [List.getElem?_set_self hi] at hj
    simp at hj
    subst hj
    refine ⟨b, c, ?_, ?_, ?_, hb, h1, h2⟩
    · rw [List.getElem?_set_ne (by omega), List.getElem?_set_ne (by omega), List.getElem?_set_self (by omega)]
    · rw [List.getElem?_set_ne (by omega), List.getElem?_set_self (by simp; omega)]
    · rw [List.getElem?_set_self (by simp; omega)]
  · rw [List.getElem?_set_ne (fun q => e q.symm)] at hj
    obtain ⟨b', c', k1, k2, k3, k4⟩ := h.2 j y hj
    exact ⟨b', c', by rw [set3_other (by omega)]; exact k1, by rw [set3_other (by omega)]; exact k2, by rw [set3_other (by omega)]; exact k3, k4⟩
/-- A row of these cells is these objects. -/
theorem RawF.objs {F : Nat → Prop} {w : World} {l : List Ob} {raw : List Value} {B : Nat} {t : TypeId} {v : Value} (h : RawF F w l raw) (own : w.ownsRow B t 3 v l.length raw) (hF : ∀ b, F b → b < B) : ObjsX F w l v := by
  rcases own.2 with ⟨e, hn⟩ | ⟨g, cap, cur, e, hB, hg, hc1, hc2, _, _⟩
  · exact .inl ⟨List.length_eq_zero_iff.1 hn, e⟩
  · subst e
    have hs := (Array.getElem?_eq_some_iff.1 hg).1
    refine .inr ⟨g, cap, rfl, hc1, hc2, hs, fun f => by have := hF g f; omega, fun i x hi => ?_⟩
    have hl := (List.getElem?_eq_some_iff.1 hi).1
    obtain ⟨b, c, k1, k2, k3, k4, k5, k6⟩ := h.2 i x hi
    exact ⟨b, c, by rw [World.ownsRow.cellAt own _ (by omega)]; exact k1, by rw [World.ownsRow.cellAt own _ (by omega)]; exact k2, by rw [World.ownsRow.cellAt own _ (by omega)]; exact k3, k4.1, k4.2.1, k4.2.2, k5, k6⟩
theorem below_grown {w w' : World} {o : Option Nat} (h : w.grownBy w' o) {B : Nat} (hB : B ≤ w.heap.size) (ho : ∀ k, o = some k → B ≤ k) : Below B w w' :=
  ⟨h.os, h.tape, h.output, h.size, fun k hk => h.block k (by omega) (fun e => by have := ho k e.symm; omega)⟩
/-- What a copy of the reference's row is. -/
theorem copy_run {F : Nat → Prop} {w : World} {l : List Ob} {v : Value} (h : ObjsX F w l v) (hl : l.length ≤ 1000) : ∃ v1 w1 raw, (Builtin.append_ #[26, 26] 26 #[.slice none 0 0, v]).run Tryd.prog w = .ok v1 w1 ∧ w1.ownsRow w.heap.size 62 3 v1 l.length raw ∧ RawF F w l raw ∧ Below w.heap.size w w1 := by
  obtain ⟨i0, hi0, hiz, his, hib⟩ := info12_parts Tryd.info62
  rcases h with ⟨rfl, rfl⟩ | ⟨g, c, rfl, h1, h2, h3, h4, h5⟩
  · exact ⟨.slice none 0 0, w, [], run_append_owned_none (P := Tryd.prog) (w := w) w.heap.size 26 26 62 i0 3 Tryd.underlying26 hi0 _ 0 [] (World.ownsRow_nil _ _ _ _), World.ownsRow_nil _ _ _ _, RawF.nil F w, Below.refl _ _⟩
  · obtain ⟨r1, r2⟩ := ObjX.raw h5
    obtain ⟨v1, w1, hr, own, grow, _, _⟩ := run_append_own_at (P := Tryd.prog) w w.heap.size 26 26 62 i0 _ 3 40 Tryd.underlying26 hi0 hiz his hib rfl (by decide) (.slice none 0 0) 0 [] (World.ownsRow_nil _ _ _ _) ⟨g, 0, none⟩ l.length c
      (rawRow w g l.length) (rawRow_len _ _ _) r1 r2 (by unfold maxLen; omega) (by omega) (Nat.le_refl _)
    have bl : Below w.heap.size w w1 := below_grown grow (Nat.le_refl _) (fun k hk => by cases hk)
    rw [Nat.zero_add] at own
    refine ⟨v1, w1, rawRow w g l.length, hr, own, ⟨rawRow_len _ _ _, fun i x hi => ?_⟩, bl⟩
    have hlt := (List.getElem?_eq_some_iff.1 hi).1
    obtain ⟨q, c', a1, a2, a3, a4, a5, a6, a7, a8⟩ := h5 i x hi
    exact ⟨q, c', by rw [rawRow_at (by omega), a1]; rfl, by rw [rawRow_at (by omega), a2]; rfl, by rw [rawRow_at (by omega), a3]; rfl, ⟨a4, a5, a6⟩, a7, a8⟩
end Go.Proofs.YthmeafnofckoiaaDoor
