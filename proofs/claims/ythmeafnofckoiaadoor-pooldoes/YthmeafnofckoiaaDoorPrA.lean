/- Layer 12, the reference's objects in memory, apart from some blocks (the pool's). -/
import Derived.Test.YthmeafnofckoiaaDoorPmG
namespace Go.Proofs.YthmeafnofckoiaaDoor
open Go Go.RowKit
open Layertwelve (Ob trapF objN loadF storeF slotF wordsF shapeF makeF firstF slotsF goF reachF)

/-- An object's cells stand from an offset of a block on; no block of it is among some. -/
def ObjX (F : Nat → Prop) (w : World) (o : Ob) (g k : Nat) : Prop := ∃ b c, w.cell? ⟨g, k, none⟩ = some (.int .i64 (o.1.1 : Int)) ∧ w.cell? ⟨g, k + 1, none⟩ = some (.int .i64 (o.1.2 : Int)) ∧ w.cell? ⟨g, k + 2, none⟩ = some (.slice (some ⟨b, 0, none⟩) o.2.length c) ∧
  b < w.heap.size ∧ ¬ F b ∧ (∀ i n, o.2[i]? = some n → w.cell? ⟨b, i, none⟩ = some (.int .i64 n)) ∧ o.2.length ≤ c ∧ c ≤ maxLen
/-- Objects as a value, apart from some blocks. -/
def ObjsX (F : Nat → Prop) (w : World) (l : List Ob) (v : Value) : Prop := (l = [] ∧ v = .slice none 0 0) ∨ ∃ g c, v = .slice (some ⟨g, 0, none⟩) l.length c ∧ l.length ≤ c ∧ c ≤ maxLen ∧ g < w.heap.size ∧ ¬ F g ∧ ∀ i x, l[i]? = some x → ObjX F w x g (i * 3)
theorem ObjX.kf {F : Nat → Prop} {w w' : World} {o : Ob} {g k : Nat} (h : ObjX F w o g k) (hg : g < w.heap.size) (hF : ¬ F g) (b : Kf F w w') : ObjX F w' o g k := by
  obtain ⟨q, c, h1, h2, h3, h4, h5, h6, h7⟩ := h
  have e : ∀ j, w'.cell? ⟨g, j, none⟩ = w.cell? ⟨g, j, none⟩ := fun j => World.cell?_of_block (b.2.2.2.2 g hg hF)
  have e2 : ∀ j, w'.cell? ⟨q, j, none⟩ = w.cell? ⟨q, j, none⟩ := fun j => World.cell?_of_block (b.2.2.2.2 q h4 h5)
  exact ⟨q, c, (e _).trans h1, (e _).trans h2, (e _).trans h3, Nat.lt_of_lt_of_le h4 b.2.2.2.1, h5, fun i n hi => (e2 i).trans (h6 i n hi), h7⟩
theorem ObjsX.kf {F : Nat → Prop} {w w' : World} {l : List Ob} {v : Value} (h : ObjsX F w l v) (b : Kf F w w') : ObjsX F w' l v := by
  rcases h with h | ⟨g, c, e, h1, h2, h3, h4, h5⟩
  · exact .inl h
  · exact .inr ⟨g, c, e, h1, h2, Nat.lt_of_lt_of_le h3 b.2.2.2.1, h4, fun i x hi => (h5 i x hi).kf h3 h4 b⟩
theorem ObjsX.below {F : Nat → Prop} {w w' : World} {l : List Ob} {v : Value} (h : ObjsX F w l v) (b : Below w.heap.size w w') : ObjsX F w' l v := h.kf (Kf.of_below b)
/-- The blocks may be more, if they are made later. -/
theorem ObjX.more {F G : Nat → Prop} {w : World} {o : Ob} {g k : Nat} (h : ObjX F w o g k) (hG : ∀ b, G b → F b ∨ w.heap.size ≤ b) : ObjX G w o g k := by
  obtain ⟨q, c, h1, h2, h3, h4, h5, h6, h7⟩ := h
  exact ⟨q, c, h1, h2, h3, h4, fun hq => (hG q hq).elim h5 (fun z => by omega), h6, h7⟩
theorem ObjsX.more {F G : Nat → Prop} {w : World} {l : List Ob} {v : Value} (h : ObjsX F w l v) (hG : ∀ b, G b → F b ∨ w.heap.size ≤ b) : ObjsX G w l v := by
  rcases h with h | ⟨g, c, e, h1, h2, h3, h4, h5⟩
  · exact .inl h
  · exact .inr ⟨g, c, e, h1, h2, h3, fun hq => (hG g hq).elim h4 (fun z => by omega), fun i x hi => (h5 i x hi).more hG⟩
theorem ObjsX.read {F : Nat → Prop} {w : World} {l : List Ob} {v : Value} (h : ObjsX F w l v) : ObjsR w l v := by
  rcases h with ⟨rfl, rfl⟩ | ⟨g, c, e, h1, h2, h3, h4, h5⟩
  · exact ⟨none, 0, rfl, Nat.le_refl _, Nat.zero_le _, .inl rfl⟩
  · refine ⟨_, c, e, h1, h2, .inr ⟨g, 0, rfl, h3, fun i x hi => ?_⟩⟩
    obtain ⟨q, k, a1, a2, a3, a4, _, a6, a7, a8⟩ := h5 i x hi
    rw [Nat.zero_add]
    exact ⟨_, k, a1, a2, a3, .inr ⟨q, 0, rfl, a4, fun j n hj => by rw [Nat.zero_add]; exact a6 j n hj⟩, a7, a8⟩
theorem ObjsX.val {F : Nat → Prop} {w : World} {l : List Ob} {v : Value} (h : ObjsX F w l v) : ∃ ao c, v = .slice ao l.length c := by
  rcases h with ⟨rfl, rfl⟩ | ⟨g, c, e, _⟩
  · exact ⟨none, 0, rfl⟩
  · exact ⟨_, c, e⟩
/-- The cells of the row of the objects, as they lie. -/
def rawRow (w : World) (g n : Nat) : List Value := (List.range (n * 3)).map fun j => (w.cell? ⟨g, j, none⟩).getD undef
theorem rawRow_len (w : World) (g n : Nat) : (rawRow w g n).length = n * 3 := by simp [rawRow]
theorem rawRow_at {w : World} {g n j : Nat} (h : j < n * 3) : (rawRow w g n)[j]? = some ((w.cell? ⟨g, j, none⟩).getD undef) := by simp [rawRow, h]
/-- All cells of the row are there, and each is one cell's value. -/
theorem ObjX.raw {F : Nat → Prop} {w : World} {l : List Ob} {g : Nat} (h : ∀ i x, l[i]? = some x → ObjX F w x g (i * 3)) : (∀ j u, (rawRow w g l.length)[j]? = some u → w.cell? ((⟨g, 0, none⟩ : Addr).add j) = some u) ∧ ∀ u ∈ rawRow w g l.length, u.oneCell' = true := by
  have each : ∀ j, j < l.length * 3 → ∃ u, w.cell? ⟨g, j, none⟩ = some u ∧ u.oneCell' = true := fun j hj => by
    have hi : j / 3 < l.length := by omega
    obtain ⟨q, c, a1, a2, a3, _⟩ := h (j / 3) _ (List.getElem?_eq_getElem hi)
    have hr : j = j / 3 * 3 + j % 3 := by omega
    have h3 : j % 3 < 3 := Nat.mod_lt _ (by decide)
    match hm : j % 3, h3 with
    | 0, _ => exact ⟨_, by rw [hr, hm]; exact a1, rfl⟩
    | 1, _ => exact ⟨_, by rw [hr, hm]; exact a2, rfl⟩
    | 2, _ => exact ⟨_, by rw [hr, hm]; exact a3, rfl⟩
  refine ⟨fun j u hj => ?_, fun u hu => ?_⟩
  · have hlt : j < l.length * 3 := by rw [← rawRow_len w g l.length]; exact (List.getElem?_eq_some_iff.1 hj).1
    obtain ⟨z, hz, _⟩ := each j hlt
    rw [rawRow_at hlt, hz] at hj
    rw [Addr.add_lit, Nat.zero_add, hz]
    simpa using hj
  · obtain ⟨j, hj⟩ := List.mem_iff_getElem?.1 hu
    have hlt : j < l.length * 3 := by rw [← rawRow_len w g l.length]; exact (List.getElem?_eq_some_iff.1 hj).1
    obtain ⟨z, hz, h1⟩ := each j hlt
    rw [rawRow_at hlt, hz] at hj
    simp at hj
    rw [← hj]; exact h1
end Go.Proofs.YthmeafnofckoiaaDoor
