/- Memory: what stays as it was but for the reader; the reader and its words. -/
import Derived.Test.YtkkkgennkhdfhaaDoorGram
import Derived.Laws.AppendOwn
import Derived.OwnWalk
import Derived.Lib.OthersKept
import Derived.Below
namespace Go.Proofs.YtkkkgennkhdfhaaDoor
open Go Go.RowKit
open G (Tok Er Ins Fun peek0 peek1 atOf)

theorem hide {p : Prop} (h : p) : Hid p := h
/-- A text's bytes as a string. -/
def bs (l : List UInt8) : ByteArray := ⟨l.toArray⟩
theorem bs_data (l : List UInt8) : (bs l).data.toList = l := by simp [bs]
theorem bs_inj {a b : List UInt8} (h : bs a = bs b) : a = b := by rw [← bs_data a, h, bs_data]
theorem bs_size (l : List UInt8) : (bs l).size = l.length := by simp [bs, ByteArray.size]
theorem bs_of (s : ByteArray) : bs s.data.toList = s := by cases s; simp [bs]

/-- The lists of ways are as they were. -/
def W80 (w w' : World) : Prop := ∀ (k : Nat) (cs : Array Value) (fz : Nat × Nat), w.heap[k]? = some (.cells cs 80 fz) → w'.heap[k]? = some (.cells cs 80 fz)
/-- The first cell of block a is as it was. -/
def A0 (a : Nat) (w w' : World) : Prop := ∀ v, w.cell? ⟨a, 0, none⟩ = some v → w'.cell? ⟨a, 0, none⟩ = some v
/-- All blocks below B but a are as they were, and so are a's first cell and the lists of ways. -/
def Kp (B a : Nat) (w w' : World) : Prop := (w'.os = w.os ∧ W80 w w') ∧ w'.tape = w.tape ∧ (w'.output = w.output ∧ A0 a w w') ∧ w.heap.size ≤ w'.heap.size ∧ ∀ k, k < B → k ≠ a → w'.heap[k]? = w.heap[k]?
theorem Kp.refl (B a : Nat) (w : World) : Kp B a w w := ⟨⟨rfl, fun _ _ _ h => h⟩, rfl, ⟨rfl, fun _ h => h⟩, Nat.le_refl _, fun _ _ _ => rfl⟩
theorem Kp.trans {B a : Nat} {u v w : World} (h : Kp B a u v) (k : Kp B a v w) : Kp B a u w :=
  ⟨⟨k.1.1.trans h.1.1, fun i cs fz e => k.1.2 i cs fz (h.1.2 i cs fz e)⟩, k.2.1.trans h.2.1, ⟨k.2.2.1.1.trans h.2.2.1.1, fun x e => k.2.2.1.2 x (h.2.2.1.2 x e)⟩, Nat.le_trans h.2.2.2.1 k.2.2.2.1, fun i h1 h2 => (k.2.2.2.2 i h1 h2).trans (h.2.2.2.2 i h1 h2)⟩
theorem Kp.mono {B B' a : Nat} {u v : World} (h : Kp B a u v) (hB : B' ≤ B) : Kp B' a u v := ⟨h.1, h.2.1, h.2.2.1, h.2.2.2.1, fun i h1 => h.2.2.2.2 i (Nat.lt_of_lt_of_le h1 hB)⟩
theorem Kp.size {B a : Nat} {u v : World} (h : Kp B a u v) : u.heap.size ≤ v.heap.size := h.2.2.2.1
theorem Kp.of_belowW {B a : Nat} {u v : World} (h : Below u.heap.size u v) (hB : B ≤ u.heap.size) : Kp B a u v :=
  ⟨⟨h.os, fun k cs fz e => (h.block k (Array.getElem?_eq_some_iff.1 e).1).trans e⟩, h.tape, ⟨h.output, fun x e => (h.cell (p := ⟨a, 0, none⟩) (World.block_lt_of_cell? u _ e)).trans e⟩, h.size, fun i h1 _ => h.block i (by omega)⟩
theorem Kp.below {B a : Nat} {u v : World} (h : Kp B a u v) (ha : B ≤ a) : Below B u v := ⟨h.1.1, h.2.1, h.2.2.1.1, h.2.2.2.1, fun i h1 => h.2.2.2.2 i h1 (by omega)⟩
theorem Kp.alloc {B a : Nat} {u w : World} (h : Kp B a u w) (hB : B ≤ w.heap.size) (o : Obj) : Kp B a u (w.alloc o) :=
  h.trans (Kp.of_belowW ((Below.refl _ w).alloc (Nat.le_refl _) o) hB)
/-- No list of ways that there was in u stands at block q of w. -/
def N80 (u w : World) (q : Nat) : Prop := u.heap.size ≤ q ∨ ∀ (cs : Array Value) (fz : Nat × Nat), w.heap[q]? ≠ some (.cells cs 80 fz)
theorem Kp.setCell {B a : Nat} {u w : World} (h : Kp B a u w) {p : Addr} (hp : (p.block = a ∧ p.off ≠ 0) ∨ (B ≤ p.block ∧ p.block ≠ a)) (hn : N80 u w p.block) (x : Value) : Kp B a u (w.setCell p x) := by
  have hb := (Below.refl 0 w).setCell (Nat.zero_le p.block) x
  refine ⟨⟨hb.os.trans h.1.1, fun k cs fz e => ?_⟩, hb.tape.trans h.2.1, ⟨hb.output.trans h.2.2.1.1, fun v e => ?_⟩, Nat.le_trans h.size hb.size, fun k h1 h2 => (Below.heap_setCell w p x k (by omega)).trans (h.2.2.2.2 k h1 h2)⟩
  · have e2 := h.1.2 k cs fz e
    rw [Below.heap_setCell w p x k ?_]
    · exact e2
    · intro hk
      rcases hn with hn | hn
      · have := (Array.getElem?_eq_some_iff.1 e).1
        omega
      · rw [hk] at e2; exact hn cs fz e2
  · rw [World.cell?_setCell_other _ _ _ _ ?_]
    · exact h.2.2.1.2 v e
    · intro e2
      subst e2
      rcases hp with hp | hp
      · exact hp.2 rfl
      · exact hp.2 rfl
theorem Kp.grown {B a : Nat} {u w w' : World} {row : Option Nat} (h : Kp B a u w) (hg : w.grownBy w' row) (hB : B ≤ w.heap.size) (hr : ∀ k, row = some k → B ≤ k ∧ k ≠ a) (hn : ∀ k, row = some k → N80 u w k) : Kp B a u w' := by
  refine ⟨⟨hg.os.trans h.1.1, fun k cs fz e => ?_⟩, hg.tape.trans h.2.1, ⟨hg.output.trans h.2.2.1.1, fun v e => ?_⟩, Nat.le_trans h.size hg.size, fun k h1 h2 => (hg.block k (by omega) (fun e => by have := hr k e.symm; omega)).trans (h.2.2.2.2 k h1 h2)⟩
  · have e2 := h.1.2 k cs fz e
    rw [hg.block k (Array.getElem?_eq_some_iff.1 e2).1 ?_]
    · exact e2
    · intro hk
      rcases hn k hk.symm with hn | hn
      · have := (Array.getElem?_eq_some_iff.1 e).1
        omega
      · exact hn cs fz e2
  · exact hg.cell (h.2.2.1.2 v e) (fun e2 => (hr a e2.symm).2 rfl)
theorem Kp.own {B a b e s n : Nat} {v : Value} {xs : List Value} {u w : World} (h : Kp B a u w) (ho : u.ownsRow b e s v n xs) (hv : ∀ g, v.ownBlock = some g → g < B ∧ g ≠ a) : w.ownsRow b e s v n xs := by
  refine ⟨ho.1, ?_⟩
  rcases ho.2 with hn | ⟨g, cap, cur, hv2, hb, hg, rest⟩
  · exact .inl hn
  · have := hv g (by rw [hv2]; rfl)
    exact .inr ⟨g, cap, cur, hv2, hb, (h.2.2.2.2 g this.1 this.2).trans hg, rest⟩
theorem own_base {b b' e s n : Nat} {v : Value} {xs : List Value} {w : World} (h : w.ownsRow b e s v n xs) (hb : b' ≤ b) : w.ownsRow b' e s v n xs := by
  refine ⟨h.1, ?_⟩
  rcases h.2 with hn | ⟨g, cap, cur, hv2, hb2, rest⟩
  · exact .inl hn
  · exact .inr ⟨g, cap, cur, hv2, by omega, rest⟩
/-- What an owned list's block holds. -/
theorem own_kind {b e s n : Nat} {v : Value} {xs : List Value} {w : World} (h : w.ownsRow b e s v n xs) {g : Nat} (hg : v.ownBlock = some g) : ∃ c, w.heap[g]? = some (.cells c e (0, 0)) := by
  rcases h.2 with ⟨rfl, _⟩ | ⟨g', cap, cur, rfl, _, hh, _⟩
  · simp [Value.ownBlock] at hg
  · simp [Value.ownBlock] at hg
    subst hg
    exact ⟨cur, hh⟩
theorem own_not80 {u w : World} {b e s n : Nat} {v : Value} {xs : List Value} (h : w.ownsRow b e s v n xs) (he : e ≠ 80) : ∀ k, v.ownBlock = some k → N80 u w k := fun k hk => .inr fun cs fz hc => by
  obtain ⟨c2, h2⟩ := own_kind h hk
  rw [hc] at h2
  simp at h2
  exact he h2.2.1.symm
/-- A block of another type is not an owned list's. -/
theorem own_ne {b e s n g : Nat} {v : Value} {xs : List Value} {w : World} (h : w.ownsRow b e s v n xs) {c : Array Value} {t : TypeId} {fz : Nat × Nat} (hg : w.heap[g]? = some (.cells c t fz)) (ht : t ≠ e) : v.ownBlock ≠ some g := by
  intro hv
  obtain ⟨c2, h2⟩ := own_kind h hv
  rw [hg] at h2
  simp at h2
  exact ht h2.2.1
/-- Lists of different types are in different blocks. -/
theorem own_apart {b e s n b2 e2 s2 n2 : Nat} {v v2 : Value} {xs xs2 : List Value} {w : World} (h : w.ownsRow b e s v n xs) (h2 : w.ownsRow b2 e2 s2 v2 n2 xs2) (ht : e ≠ e2) : v.ownBlock = none ∨ v.ownBlock ≠ v2.ownBlock := by
  cases hv : v.ownBlock with
  | none => exact .inl rfl
  | some g =>
    refine .inr fun e => ?_
    obtain ⟨c, hc⟩ := own_kind h hv
    exact own_ne h2 hc ht e.symm

/-- The cells of words: each one's text and where it begins. -/
def cellsK : List Tok → List Value
  | [] => []
  | t :: r => .string (bs t.1) :: .int .i64 t.2 :: cellsK r
theorem cellsK_at : ∀ (L : List Tok) (j : Nat) (t : Tok), L[j]? = some t → (cellsK L)[2 * j]? = some (.string (bs t.1)) ∧ (cellsK L)[2 * j + 1]? = some (.int .i64 t.2) := by
  intro L
  induction L with
  | nil => intro j t h; simp at h
  | cons x r ih =>
    intro j t h
    cases j with
    | zero => simp at h; subst h; exact ⟨rfl, rfl⟩
    | succ j =>
      simp at h
      have := ih j t h
      rw [show 2 * (j + 1) = 2 * j + 1 + 1 by omega]
      simpa [cellsK] using this

/-- The reader at block a: its words, how many are read, where the text ends, how many instructions were met; l are those that are left. -/
def Rdr (B a : Nat) (L : List Tok) (E : Int) (n : Nat) (l : List Tok) (w : World) : Prop :=
  ∃ v, w.heap[a]? = some (.cells #[v, .int .i64 ((L.length - l.length : Nat) : Int), .int .i64 E, .int .i64 (n : Int)] 48 (0, 0)) ∧ w.ownsRow 0 53 2 v L.length (cellsK L) ∧
    a < B ∧ (∀ g, v.ownBlock = some g → g < B) ∧ l <:+ L ∧ (L.length ≤ 131072 ∧ ∀ t ∈ L, t.1.length ≤ 65536) ∧ n ≤ 4096 ∧ B ≤ w.heap.size
theorem Rdr.not80 {B a : Nat} {L : List Tok} {E : Int} {n : Nat} {l : List Tok} {u w : World} (h : Rdr B a L E n l w) : N80 u w a := .inr fun cs fz hc => by
  obtain ⟨v, h1, _⟩ := h
  rw [h1] at hc
  simp at hc
theorem Rdr.lower {B B' B'' a : Nat} {L L' : List Tok} {E E' : Int} {n n' : Nat} {l l' : List Tok} {w w' : World} (h : Rdr B a L E n l w) (k : Kp B' a w w') (r : Rdr B'' a L' E' n' l' w') : Rdr B a L' E' n' l' w' := by
  obtain ⟨v, h1, h2, h3, h4, h5, h6, h7, h8⟩ := h
  obtain ⟨v', r1, r2, r3, r4, r5, r6, r7, r8⟩ := r
  have e := k.2.2.1.2 v (by simp [World.cell?, h1])
  have e' : w'.cell? ⟨a, 0, none⟩ = some v' := by simp [World.cell?, r1]
  rw [e'] at e
  cases e
  exact ⟨v, r1, r2, h3, h4, r5, r6, r7, Nat.le_trans h8 k.size⟩
theorem Rdr.mono {B B' a : Nat} {L : List Tok} {E : Int} {n : Nat} {l : List Tok} {w : World} (h : Rdr B a L E n l w) (hB : B ≤ B') (hw : B' ≤ w.heap.size) : Rdr B' a L E n l w := by
  obtain ⟨v, h1, h2, h3, h4, h5, h6, h7, h8⟩ := h
  exact ⟨v, h1, h2, by omega, fun g hg => Nat.lt_of_lt_of_le (h4 g hg) hB, h5, h6, h7, hw⟩
theorem Rdr.keep {B a : Nat} {L : List Tok} {E : Int} {n : Nat} {l : List Tok} {w w' : World} (h : Rdr B a L E n l w) (hs : w.heap.size ≤ w'.heap.size) (hb : ∀ k, k < B → w'.heap[k]? = w.heap[k]?) : Rdr B a L E n l w' := by
  obtain ⟨v, h1, h2, h3, h4, h5, h6, h7, h8⟩ := h
  refine ⟨v, (hb a h3).trans h1, ?_, h3, h4, h5, h6, h7, by omega⟩
  refine ⟨h2.1, ?_⟩
  rcases h2.2 with hn | ⟨g, cap, cur, hv2, hbb, hg, rest⟩
  · exact .inl hn
  · exact .inr ⟨g, cap, cur, hv2, hbb, (hb g (h4 g (by rw [hv2]; rfl))).trans hg, rest⟩
theorem Rdr.below {B a : Nat} {L : List Tok} {E : Int} {n : Nat} {l : List Tok} {w w' : World} (h : Rdr B a L E n l w) (hb : Below B w w') : Rdr B a L E n l w' := h.keep hb.size hb.block
theorem Rdr.size {B a : Nat} {L : List Tok} {E : Int} {n : Nat} {l : List Tok} {w : World} (h : Rdr B a L E n l w) : B ≤ w.heap.size := by
  obtain ⟨v, h1, h2, h3, h4, h5, h6, h7, h8⟩ := h; exact h8
theorem Rdr.suffix {B a : Nat} {L : List Tok} {E : Int} {n : Nat} {l : List Tok} {w : World} (h : Rdr B a L E n l w) : l <:+ L ∧ L.length ≤ 131072 ∧ n ≤ 4096 ∧ a < B := by
  obtain ⟨v, h1, h2, h3, h4, h5, h6, h7, h8⟩ := h; exact ⟨h5, h6.1, h7, h3⟩
theorem Rdr.short {B a : Nat} {L : List Tok} {E : Int} {n : Nat} {l : List Tok} {w : World} (h : Rdr B a L E n l w) : (peek0 l).length ≤ 65536 := by
  obtain ⟨v, h1, h2, h3, h4, h5, h6, h7, h8⟩ := h
  cases l with
  | nil => simp [peek0]
  | cons t r => exact h6.2 t (h5.subset (by simp))
/-- What the walk reads of it. -/
theorem Rdr.cells {B a : Nat} {L : List Tok} {E : Int} {n : Nat} {l : List Tok} {w : World} (h : Rdr B a L E n l w) :
    a < w.heap.size ∧ ∃ v, w.cell? ⟨a, 0, none⟩ = some v ∧ w.cell? ⟨a, 1, none⟩ = some (.int .i64 ((L.length - l.length : Nat) : Int)) ∧ w.cell? ⟨a, 2, none⟩ = some (.int .i64 E) ∧ w.cell? ⟨a, 3, none⟩ = some (.int .i64 (n : Int)) ∧
      w.frozen? ⟨a, 0, none⟩ = false ∧ w.frozen? ⟨a, 1, none⟩ = false ∧ w.frozen? ⟨a, 2, none⟩ = false ∧ w.frozen? ⟨a, 3, none⟩ = false ∧
      ((v = .slice none 0 0 ∧ L = []) ∨ ∃ g cap, v = .slice (some ⟨g, 0, none⟩) L.length cap ∧ L.length ≤ cap ∧ cap ≤ maxLen ∧ (∀ j t, L[j]? = some t → w.cell? ⟨g, j * 2, none⟩ = some (.string (bs t.1)) ∧ w.cell? ⟨g, j * 2 + 1, none⟩ = some (.int .i64 t.2)) ∧ ∀ j, w.frozen? ⟨g, j, none⟩ = false) := by
  obtain ⟨v, h1, h2, h3, h4, h5, h6, h7, h8⟩ := h
  refine ⟨by omega, v, by simp [World.cell?, h1], by simp [World.cell?, h1], by simp [World.cell?, h1], by simp [World.cell?, h1], by simp [World.frozen?, h1], by simp [World.frozen?, h1], by simp [World.frozen?, h1], by simp [World.frozen?, h1], ?_⟩
  rcases h2.2 with ⟨hv, hn⟩ | ⟨g, cap, cur, hv2, hbb, hg, hc1, hc2, hc3, hc4⟩
  · exact .inl ⟨hv, List.length_eq_zero_iff.1 hn⟩
  · refine .inr ⟨g, cap, hv2, hc1, hc2, ?_, ?_⟩
    · intro j t hj
      have hc := h2.cells (g := g) (by rw [hv2]; rfl)
      obtain ⟨k1, k2⟩ := cellsK_at L j t hj
      have e1 := hc _ _ k1
      have e2 := hc _ _ k2
      rw [Addr.add_lit, Nat.zero_add, Nat.mul_comm] at e1 e2
      exact ⟨e1, e2⟩
    · intro j; simp [World.frozen?, hg]
/-- Two cells of a block, which may be written. -/
def Pair (w : World) (g : Nat) (a b : Value) : Prop :=
  w.cell? ⟨g, 0, none⟩ = some a ∧ w.cell? ⟨g, 1, none⟩ = some b ∧ w.frozen? ⟨g, 0, none⟩ = false ∧ w.frozen? ⟨g, 1, none⟩ = false ∧ g < w.heap.size
theorem Pair.new (w : World) (t : TypeId) {a b : Value} : Pair (w.alloc (.cells #[a, b] t)) w.heap.size a b := by
  refine ⟨?_, ?_, ?_, ?_, by simp⟩ <;> simp [go_sem]
theorem Pair.below {w w1 : World} {g : Nat} {a b : Value} (h : Pair w g a b) (hb : Below w.heap.size w w1) : Pair w1 g a b := by
  obtain ⟨c0, c1, f0, f1, z⟩ := h
  exact ⟨(hb.cell z).trans c0, (hb.cell z).trans c1, (hb.frozen z).trans f0, (hb.frozen z).trans f1, Nat.lt_of_lt_of_le z hb.size⟩
theorem Pair.kept {B a : Nat} {w w1 : World} {g : Nat} {x y : Value} (h : Pair w g x y) (hb : Kp B a w w1) (hg : g < B) (ha : g ≠ a) : Pair w1 g x y := by
  obtain ⟨c0, c1, f0, f1, z⟩ := h
  have e := hb.2.2.2.2 g hg ha
  exact ⟨(World.cell?_of_block e).trans c0, (World.cell?_of_block e).trans c1, (World.frozen?_of_block e).trans f0, (World.frozen?_of_block e).trans f1, Nat.lt_of_lt_of_le z hb.size⟩
theorem below_box (w : World) (o : Obj) : Below w.heap.size w (w.alloc o) := (Below.refl _ _).alloc (Nat.le_refl _) _
theorem below_step {a b c : World} (h : Below a.heap.size a b) (k : Below b.heap.size b c) : Below a.heap.size a c := h.trans (k.mono h.size)
theorem Rdr.step {B a : Nat} {L : List Tok} {E : Int} {n : Nat} {l : List Tok} {w w' : World} (h : Rdr B a L E n l w) (hb : Below w.heap.size w w') : Rdr B a L E n l w' := h.below (hb.mono h.size)
/-- The word so many ahead. -/
theorem Rdr.word {L l : List Tok} (h : l <:+ L) (i : Nat) : L[L.length - l.length + i]? = l[i]? := by
  obtain ⟨p, rfl⟩ := h
  rw [List.getElem?_append_right (by simp)]
  congr 1
  simp
end Go.Proofs.YtkkkgennkhdfhaaDoor
