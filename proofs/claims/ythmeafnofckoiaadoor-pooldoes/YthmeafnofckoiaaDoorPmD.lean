/- Layer 12, memory: a pool that is written: its blocks, what stays, and a store. -/
import Derived.Test.YthmeafnofckoiaaDoorPmC
import Derived.Maps.AppendAt
namespace Go.Proofs.YthmeafnofckoiaaDoor
open Go Go.RowKit
open Layertwelve (Ob trapF objN loadF storeF slotF wordsF shapeF makeF firstF slotsF goF reachF)

theorem own_below {w w' : World} (b : Below w.heap.size w w') (B e s : Nat) (v : Value) (n : Nat) (xs : List Value) (h : w.ownsRow B e s v n xs) : w'.ownsRow B e s v n xs := by
  refine ⟨h.1, ?_⟩
  rcases h.2 with hn | ⟨g, cap, cur, hv2, hbb, hg, rest⟩
  · exact .inl hn
  · exact .inr ⟨g, cap, cur, hv2, hbb, (b.block g (Array.getElem?_eq_some_iff.1 hg).1).trans hg, rest⟩
theorem own_setCell {w : World} {b e s n : Nat} {v : Value} {xs : List Value} (h : w.ownsRow b e s v n xs) {p : Addr} (hp : v.ownBlock ≠ some p.block) (u : Value) : (w.setCell p u).ownsRow b e s v n xs := by
  refine ⟨h.1, ?_⟩
  rcases h.2 with hn | ⟨g, cap, cur, hv2, hbb, hg, rest⟩
  · exact .inl hn
  · refine .inr ⟨g, cap, cur, hv2, hbb, ?_, rest⟩
    rw [Below.heap_setCell _ _ _ _ (fun e => hp (by rw [hv2, ← e]; rfl))]
    exact hg
theorem own_kind {b e s n : Nat} {v : Value} {xs : List Value} {w : World} (h : w.ownsRow b e s v n xs) {g : Nat} (hg : v.ownBlock = some g) : ∃ c, w.heap[g]? = some (.cells c e (0, 0)) := by
  rcases h.2 with ⟨hv, _⟩ | ⟨g', cap, cur, hv2, hbb, hgg, rest⟩
  · rw [hv] at hg; cases hg
  · rw [hv2] at hg
    cases hg
    exact ⟨cur, hgg⟩
/-- What was there stays, but for some blocks. -/
def Kf (F : Nat → Prop) (w w' : World) : Prop := w'.os = w.os ∧ w'.tape = w.tape ∧ w'.output = w.output ∧ w.heap.size ≤ w'.heap.size ∧ ∀ k, k < w.heap.size → ¬ F k → w'.heap[k]? = w.heap[k]?
theorem Kf.of_below {F : Nat → Prop} {w w' : World} (b : Below w.heap.size w w') : Kf F w w' := ⟨b.os, b.tape, b.output, b.size, fun k hk _ => b.block k hk⟩
theorem Kf.below {F : Nat → Prop} {w w' : World} {B : Nat} (h : Kf F w w') (hF : ∀ k, F k → B ≤ k) (hB : B ≤ w.heap.size) : Below B w w' :=
  ⟨h.1, h.2.1, h.2.2.1, h.2.2.2.1, fun k hk => h.2.2.2.2 k (by omega) (fun f => by have := hF k f; omega)⟩
theorem Kf.trans {F G : Nat → Prop} {a b c : World} (h : Kf F a b) (k : Kf G b c) (hG : ∀ x, G x → F x ∨ a.heap.size ≤ x) : Kf F a c :=
  ⟨k.1.trans h.1, k.2.1.trans h.2.1, k.2.2.1.trans h.2.2.1, Nat.le_trans h.2.2.2.1 k.2.2.2.1, fun i hi hf => (k.2.2.2.2 i (Nat.lt_of_lt_of_le hi h.2.2.2.1) (fun g => by rcases hG i g with q | q; exact hf q; omega)).trans (h.2.2.2.2 i hi hf)⟩
/-- An object's cells. -/
abbrev obCells (o : Ob) (b : Nat) : List Value := [.int .i64 (o.1.1 : Int), .int .i64 (o.1.2 : Int), .slice (some ⟨b, 0, none⟩) o.2.length o.2.length]
def rowCells : List Ob → List Nat → List Value
  | o :: l, b :: ss => obCells o b ++ rowCells l ss
  | _, _ => []
theorem rowCells_at : ∀ (l : List Ob) (ss : List Nat) (i j : Nat) (o : Ob) (b : Nat), l[i]? = some o → ss[i]? = some b → j < 3 → (rowCells l ss)[i * 3 + j]? = (obCells o b)[j]?
  | [], _, _, _, _, _, h, _, _ => by simp at h
  | _ :: _, [], _, _, _, _, _, h, _ => by simp at h
  | x :: l, c :: ss, 0, j, o, b, h1, h2, hj => by
    simp at h1 h2; subst h1; subst h2
    show (obCells x c ++ rowCells l ss)[0 * 3 + j]? = _
    rw [Nat.zero_mul, Nat.zero_add, List.getElem?_append_left (by simpa using hj)]
  | x :: l, c :: ss, i + 1, j, o, b, h1, h2, hj => by
    show (obCells x c ++ rowCells l ss)[(i + 1) * 3 + j]? = _
    rw [List.getElem?_append_right (by simp; omega)]
    have := rowCells_at l ss i j o b (by simpa using h1) (by simpa using h2) hj
    rw [← this]
    congr 1
    simp; omega
theorem rowCells_snoc : ∀ (l : List Ob) (ss : List Nat) (o : Ob) (b : Nat), ss.length = l.length → rowCells (l ++ [o]) (ss ++ [b]) = rowCells l ss ++ obCells o b
  | [], [], o, b, _ => by simp [rowCells]
  | [], _ :: _, _, _, h => by simp at h
  | _ :: _, [], _, _, h => by simp at h
  | x :: l, c :: ss, o, b, h => by
    show obCells x c ++ rowCells (l ++ [o]) (ss ++ [b]) = (obCells x c ++ rowCells l ss) ++ obCells o b
    rw [rowCells_snoc l ss o b (by simpa using h), List.append_assoc]
theorem rowCells_set : ∀ (l : List Ob) (ss : List Nat) (i : Nat) (o o' : Ob), l[i]? = some o → o'.1 = o.1 → o'.2.length = o.2.length → rowCells (l.set i o') ss = rowCells l ss
  | [], _, _, _, _, h, _, _ => by simp at h
  | _ :: _, [], 0, _, _, _, _, _ => rfl
  | _ :: _, [], _ + 1, _, _, _, _, _ => rfl
  | x :: l, c :: ss, 0, o, o', h, h1, h2 => by
    simp at h; subst h
    show obCells o' c ++ rowCells l ss = obCells x c ++ rowCells l ss
    rw [show obCells o' c = obCells x c from by simp [obCells, h1, h2]]
  | x :: l, c :: ss, i + 1, o, o', h, h1, h2 => by
    show obCells x c ++ rowCells (l.set i o') ss = obCells x c ++ rowCells l ss
    rw [rowCells_set l ss i o o' (by simpa using h) h1 h2]
/-- The pool at a block holds these objects; v: the list's value; ss: the blocks of the objects' slots. -/
def PoolW (w : World) (B gp : Nat) (l : List Ob) (v : Value) (ss : List Nat) : Prop :=
  B ≤ gp ∧ w.heap[gp]? = some (.cells #[v, .int .i64 (wordsF l : Int)] 58 (0, 0)) ∧ w.ownsRow B 66 3 v l.length (rowCells l ss) ∧ ss.length = l.length ∧ ss.Nodup ∧
  ∀ (i : Nat) (o : Ob) (b : Nat), l[i]? = some o → ss[i]? = some b → B ≤ b ∧ w.heap[b]? = some (.cells (ints12 o.2).toArray 2 (0, 0))
/-- The pool's blocks. -/
def Foot (gp : Nat) (v : Value) (ss : List Nat) (b : Nat) : Prop := b = gp ∨ v.ownBlock = some b ∨ b ∈ ss
theorem PoolW.slots {w : World} {B gp : Nat} {l : List Ob} {v : Value} {ss : List Nat} (h : PoolW w B gp l v ss) {b : Nat} (hb : b ∈ ss) : B ≤ b ∧ ∃ c, w.heap[b]? = some (.cells c 2 (0, 0)) := by
  obtain ⟨i, hi⟩ := List.mem_iff_getElem?.1 hb
  have h1 := (List.getElem?_eq_some_iff.1 hi).1
  have h2 : i < l.length := by rw [← h.2.2.2.1]; exact h1
  obtain ⟨k1, k2⟩ := h.2.2.2.2.2 i _ b (List.getElem?_eq_getElem h2) hi
  exact ⟨k1, _, k2⟩
theorem PoolW.foot {w : World} {B gp : Nat} {l : List Ob} {v : Value} {ss : List Nat} (h : PoolW w B gp l v ss) {b : Nat} (hb : Foot gp v ss b) : B ≤ b ∧ b < w.heap.size := by
  rcases hb with rfl | hb | hb
  · exact ⟨h.1, (Array.getElem?_eq_some_iff.1 h.2.1).1⟩
  · exact h.2.2.1.lt b hb
  · obtain ⟨k1, c, k2⟩ := h.slots hb
    exact ⟨k1, (Array.getElem?_eq_some_iff.1 k2).1⟩
theorem PoolW.same {w w' : World} {B gp : Nat} {l : List Ob} {v : Value} {ss : List Nat} (h : PoolW w B gp l v ss) (hk : ∀ b, Foot gp v ss b → w'.heap[b]? = w.heap[b]?) : PoolW w' B gp l v ss := by
  obtain ⟨h1, h2, h3, h4, h5, h6⟩ := h
  refine ⟨h1, (hk gp (.inl rfl)).trans h2, ⟨h3.1, ?_⟩, h4, h5, fun i o b hi hb => ?_⟩
  · rcases h3.2 with hn | ⟨g, cap, cur, hv2, hbb, hg, rest⟩
    · exact .inl hn
    · exact .inr ⟨g, cap, cur, hv2, hbb, (hk g (.inr (.inl (by rw [hv2]; rfl)))).trans hg, rest⟩
  · obtain ⟨k1, k2⟩ := h6 i o b hi hb
    exact ⟨k1, (hk b (.inr (.inr (List.mem_of_getElem? hb)))).trans k2⟩
theorem PoolW.below {w w' : World} {B gp : Nat} {l : List Ob} {v : Value} {ss : List Nat} (h : PoolW w B gp l v ss) (b : Below w.heap.size w w') : PoolW w' B gp l v ss := h.same fun k hk => b.block k (h.foot hk).2
theorem two_cells {w : World} {c : Nat} {a b : Value} {t : TypeId} (h : w.heap[c]? = some (.cells #[a, b] t (0, 0))) : w.cell? ⟨c, 0, none⟩ = some a ∧ w.cell? ⟨c, 1, none⟩ = some b ∧ w.frozen? ⟨c, 0, none⟩ = false ∧ w.frozen? ⟨c, 1, none⟩ = false := by
  simp [World.cell?, World.frozen?, h]
theorem row_cell {w : World} {b k : Nat} {l : List Int} {n : Int} (h : w.heap[b]? = some (.cells (ints12 l).toArray 2 (0, 0))) (hk : l[k]? = some n) : w.cell? ⟨b, k, none⟩ = some (.int .i64 n) ∧ w.frozen? ⟨b, k, none⟩ = false := by
  have hl := (List.getElem?_eq_some_iff.1 hk).1
  have := cell_of_row w b k _ 2 (0, 0) h
  refine ⟨this.trans ?_, by simp [World.frozen?, h]⟩
  simp [hk]
theorem PoolW.obj {w : World} {B gp g cap : Nat} {l : List Ob} {ss : List Nat} {i : Nat} {o : Ob} {b : Nat} (h : PoolW w B gp l (.slice (some ⟨g, 0, none⟩) l.length cap) ss) (hi : l[i]? = some o) (hb : ss[i]? = some b) :
    w.cell? ⟨g, i * 3, none⟩ = some (.int .i64 (o.1.1 : Int)) ∧ w.cell? ⟨g, i * 3 + 1, none⟩ = some (.int .i64 (o.1.2 : Int)) ∧ w.cell? ⟨g, i * 3 + 2, none⟩ = some (.slice (some ⟨b, 0, none⟩) o.2.length o.2.length) := by
  have hl := (List.getElem?_eq_some_iff.1 hi).1
  have q : ∀ j, j < 3 → w.cell? ⟨g, i * 3 + j, none⟩ = (obCells o b)[j]? := fun j hj => by
    rw [World.ownsRow.cellAt h.2.2.1 (i * 3 + j) (by omega), rowCells_at l ss i j o b hi hb hj]
  exact ⟨q 0 (by omega), q 1 (by omega), q 2 (by omega)⟩
theorem PoolW.at {w : World} {B gp : Nat} {l : List Ob} {v : Value} {ss : List Nat} {i : Nat} {o : Ob} (h : PoolW w B gp l v ss) (hi : l[i]? = some o) : ∃ b, ss[i]? = some b ∧ B ≤ b ∧ w.heap[b]? = some (.cells (ints12 o.2).toArray 2 (0, 0)) := by
  have hl := (List.getElem?_eq_some_iff.1 hi).1
  have h2 : i < ss.length := by rw [h.2.2.2.1]; exact hl
  have e := List.getElem?_eq_getElem h2
  exact ⟨_, e, h.2.2.2.2.2 i o _ hi e⟩
theorem PoolW.read {w : World} {B gp : Nat} {l : List Ob} {v : Value} {ss : List Nat} (h : PoolW w B gp l v ss) (hs : ∀ o ∈ l, Sh o) : PoolR w l gp := by
  obtain ⟨c0, c1, _, _⟩ := two_cells h.2.1
  have hgp := (h.foot (.inl rfl)).2
  rcases h.2.2.1.2 with ⟨hv, hn⟩ | ⟨g, cap, cur, hv2, hbb, hg, hc1, hc2, _⟩
  · refine ⟨none, 0, by rw [c0, hv, hn], c1, hgp, ⟨none, 0, rfl, by omega, by simp [maxLen], .inl (List.length_eq_zero_iff.1 hn)⟩⟩
  · subst hv2
    refine ⟨_, _, c0, c1, hgp, ⟨_, _, rfl, hc1, hc2, .inr ⟨g, 0, rfl, (Array.getElem?_eq_some_iff.1 hg).1, fun i o hi => ?_⟩⟩⟩
    obtain ⟨b, hb, hB, hblk⟩ := h.at hi
    obtain ⟨d0, d1, d2⟩ := h.obj hi hb
    have hlen : o.2.length ≤ 16 := by obtain ⟨q1, _, q3⟩ := hs o (List.mem_of_getElem? hi); omega
    rw [Nat.zero_add]
    refine ⟨_, _, d0, d1, d2, ?_, Nat.le_refl _, by unfold maxLen; omega⟩
    exact .inr ⟨b, 0, rfl, (Array.getElem?_eq_some_iff.1 hblk).1, fun k n hk => by rw [Nat.zero_add]; exact (row_cell hblk hk).1⟩
theorem PoolW.slotAt {w : World} {B gp : Nat} {l : List Ob} {v : Value} {ss : List Nat} {i b : Nat} (h : PoolW w B gp l v ss) (hi : i < l.length) (hb : ss[i]? = some b) : SlotAt w l gp i b 0 := by
  have e := Layertwelve.objN_mem (l := l) (id := (i : Int) + 1) (by omega) (by omega)
  rw [show ((i : Int) + 1 - 1).toNat = i from by omega] at e
  obtain ⟨c0, c1, _, _⟩ := two_cells h.2.1
  have hgp := (h.foot (.inl rfl)).2
  rcases h.2.2.1.2 with ⟨hv, hn⟩ | ⟨g, cap, cur, hv2, hbb, hg, hc1, hc2, _⟩
  · omega
  · subst hv2
    obtain ⟨d0, d1, d2⟩ := h.obj e hb
    exact ⟨g, 0, cap, _, c0, (Array.getElem?_eq_some_iff.1 hg).1, hgp, by omega, by rw [Nat.zero_add]; exact d0, by rw [Nat.zero_add]; exact d1, by rw [Nat.zero_add]; exact d2⟩
theorem words_set {l : List Ob} {i : Nat} {o o' : Ob} (hi : l[i]? = some o) (h : o'.2.length = o.2.length) : wordsF (l.set i o') = wordsF l := by
  unfold wordsF
  rw [List.map_set, h]
  congr 1
  have hl := (List.getElem?_eq_some_iff.1 hi).1
  apply List.ext_getElem?
  intro j
  rw [List.getElem?_set]
  by_cases e : i = j
  · subst e; rw [if_pos rfl, List.length_map, if_pos hl, List.getElem?_map, hi]; rfl
  · simp [e]
theorem toArray_set (l : List Int) (k : Nat) (n : Int) : (ints12 l).toArray.setIfInBounds k (.int .i64 n) = (ints12 (l.set k n)).toArray := by
  simp [ints12, List.map_set]
theorem PoolW.store {w : World} {B gp : Nat} {l : List Ob} {v : Value} {ss : List Nat} {i b k : Nat} {o : Ob} {n : Int} (h : PoolW w B gp l v ss) (hi : l[i]? = some o) (hb : ss[i]? = some b) :
    PoolW (w.setCell ⟨b, k, none⟩ (.int .i64 n)) B gp (l.set i (o.1, o.2.set k n)) v ss ∧ Kf (Foot gp v ss) w (w.setCell ⟨b, k, none⟩ (.int .i64 n)) := by
  have hin := List.mem_of_getElem? hb
  obtain ⟨hB, hblk⟩ := h.2.2.2.2.2 i o b hi hb
  have hne : gp ≠ b := fun e => by have := h.2.1; rw [e, hblk] at this; injection this with this; injection this with _ this; exact absurd this (by decide)
  have hrow : v.ownBlock ≠ some b := fun e => by
    obtain ⟨c, hc⟩ := own_kind h.2.2.1 e
    rw [hblk] at hc; injection hc with hc; injection hc with _ hc; exact absurd hc (by decide)
  refine ⟨⟨h.1, ?_, ?_, by simpa using h.2.2.2.1, h.2.2.2.2.1, fun j o' b' hj hb' => ?_⟩, rfl, rfl, rfl, by simp, fun q hq hf => Below.heap_setCell w ⟨b, k, none⟩ _ q (fun e => hf (.inr (.inr (by rw [e]; exact hin))))⟩
  · rw [words_set hi (by simp)]
    exact (Below.heap_setCell w ⟨b, k, none⟩ _ gp hne).trans h.2.1
  · rw [rowCells_set l ss i o (o.1, o.2.set k n) hi rfl (by simp), List.length_set]
    exact own_setCell h.2.2.1 hrow _
  · rw [List.getElem?_set] at hj
    have hl := (List.getElem?_eq_some_iff.1 hi).1
    by_cases e : i = j
    · subst e
      rw [if_pos rfl, if_pos hl] at hj
      obtain rfl := Option.some.inj hj
      rw [hb] at hb'
      obtain rfl := Option.some.inj hb'
      refine ⟨hB, ?_⟩
      have := heap_setCell_same w b k _ 2 (.int .i64 n) hblk
      rw [toArray_set] at this
      exact this
    · rw [if_neg e] at hj
      obtain ⟨k1, k2⟩ := h.2.2.2.2.2 j o' b' hj hb'
      refine ⟨k1, (Below.heap_setCell w ⟨b, k, none⟩ _ b' (fun q => ?_)).trans k2⟩
      have q' : b' = b := q
      subst q'
      exact e ((List.getElem?_inj (List.getElem?_eq_some_iff.1 hb).1 h.2.2.2.2.1).1 (hb.trans hb'.symm))
end Go.Proofs.YthmeafnofckoiaaDoor
