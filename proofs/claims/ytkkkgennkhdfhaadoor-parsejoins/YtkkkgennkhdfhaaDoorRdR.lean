/- A block in memory, and what its reading leans on. -/
import Derived.Test.YtkkkgennkhdfhaaDoorRdQ
import Derived.Test.YtkkkgennkhdfhaaDoorRdP
namespace Go.Proofs.YtkkkgennkhdfhaaDoor
open Go Go.RowKit
open G (Tok Er Ins Fun peek0 peek1 atOf)

/-- The cells of instructions, one behind the other; their lists stand at blocks from B on. -/
def InsRow (B : Nat) (w : World) : List Ins → List Value → Prop
  | [], cs => cs = []
  | x :: r, cs => ∃ va vt rest, cs = insCells x va vt ++ rest ∧ w.ownsRow B 3 1 va x.2.2.2.2.1.length (ints x.2.2.2.2.1) ∧ w.ownsRow B 3 1 vt x.2.2.2.2.2.1.length (ints x.2.2.2.2.2.1) ∧ InsRow B w r rest
theorem InsRow.keep {B B' : Nat} {w w' : World} (hk : ∀ (v : Value) (n : Nat) (xs : List Value), w.ownsRow B 3 1 v n xs → w'.ownsRow B' 3 1 v n xs) : ∀ (l : List Ins) (cs : List Value), InsRow B w l cs → InsRow B' w' l cs := by
  intro l
  induction l with
  | nil => intro cs h; exact h
  | cons x r ih =>
    rintro cs ⟨va, vt, rest, h1, h2, h3, h4⟩
    exact ⟨va, vt, rest, h1, hk _ _ _ h2, hk _ _ _ h3, ih rest h4⟩
theorem InsRow.snoc {B : Nat} {w : World} {x : Ins} {va vt : Value} (h1 : w.ownsRow B 3 1 va x.2.2.2.2.1.length (ints x.2.2.2.2.1)) (h2 : w.ownsRow B 3 1 vt x.2.2.2.2.2.1.length (ints x.2.2.2.2.2.1)) : ∀ (l : List Ins) (cs : List Value), InsRow B w l cs → InsRow B w (l ++ [x]) (cs ++ insCells x va vt) := by
  intro l
  induction l with
  | nil => intro cs h; cases h; exact ⟨va, vt, [], by simp, h1, h2, rfl⟩
  | cons y r ih =>
    rintro cs ⟨ua, ut, rest, rfl, h4, h5, h6⟩
    exact ⟨ua, ut, rest ++ insCells x va vt, by simp, h4, h5, ih rest h6⟩
/-- The value of a block. -/
def BlkVal (B : Nat) (xs : List Ins) (v : Value) (w : World) : Prop := ∃ cs, w.ownsRow B 38 8 v xs.length cs ∧ InsRow B w xs cs
theorem own_below {w w' : World} (b : Below w.heap.size w w') (B e s : Nat) : ∀ (v : Value) (n : Nat) (xs : List Value), w.ownsRow B e s v n xs → w'.ownsRow B e s v n xs :=
  fun v _ _ h => h.kept (L2.below_grown b) (by cases v.ownBlock <;> simp)
theorem own_kept {a : Nat} {w w' : World} (k : Kp w.heap.size a w w') {B : Nat} (ha : a < B) (e s : Nat) : ∀ (v : Value) (n : Nat) (xs : List Value), w.ownsRow B e s v n xs → w'.ownsRow B e s v n xs :=
  fun _ _ _ h => own_kp h k (fun g hg => by have := h.lt g hg; omega)
theorem own_other {w w' : World} {row : Value} {B B' e s e' s' n : Nat} {xs : List Value} (hg : w.grownBy w' row.ownBlock) (hr : w.ownsRow B' e' s' row n xs) (he : e ≠ e') : ∀ (v : Value) (m : Nat) (ys : List Value), w.ownsRow B e s v m ys → w'.ownsRow B e s v m ys :=
  fun _ _ _ h => h.kept hg (own_apart h hr he)
theorem BlkVal.below {B : Nat} {xs : List Ins} {v : Value} {w w' : World} (h : BlkVal B xs v w) (b : Below w.heap.size w w') : BlkVal B xs v w' := by
  obtain ⟨cs, h1, h2⟩ := h
  exact ⟨cs, own_below b _ _ _ _ _ _ h1, InsRow.keep (own_below b B 3 1) _ _ h2⟩
theorem BlkVal.kp {B a : Nat} {xs : List Ins} {v : Value} {w w' : World} (h : BlkVal B xs v w) (k : Kp w.heap.size a w w') (ha : a < B) : BlkVal B xs v w' := by
  obtain ⟨cs, h1, h2⟩ := h
  exact ⟨cs, own_kept k ha _ _ _ _ _ h1, InsRow.keep (own_kept k ha 3 1) _ _ h2⟩
theorem BlkVal.grown {B : Nat} {xs : List Ins} {v : Value} {w w' : World} {row : Value} {B' e' s' n : Nat} {ys : List Value} (h : BlkVal B xs v w) (hg : w.grownBy w' row.ownBlock) (hr : w.ownsRow B' e' s' row n ys) (h3 : 3 ≠ e') (h38 : 38 ≠ e') : BlkVal B xs v w' := by
  obtain ⟨cs, h1, h2⟩ := h
  exact ⟨cs, own_other hg hr h38 _ _ _ h1, InsRow.keep (own_other hg hr h3) _ _ h2⟩
theorem BlkVal.base {B B' : Nat} {xs : List Ins} {v : Value} {w : World} (h : BlkVal B xs v w) (hB : B' ≤ B) : BlkVal B' xs v w := by
  obtain ⟨cs, h1, h2⟩ := h
  exact ⟨cs, own_base h1 hB, InsRow.keep (fun _ _ _ h => own_base h hB) _ _ h2⟩
theorem Tryd.info38 : (Tryd.prog.info? 38).map (fun i => (i.zero, i.size, i.bytes)) = some (some (.agg #[.int .i64 0, .int .i64 0, .int .i64 0, .int .i64 0, .slice none 0 0, .slice none 0 0, .string ⟨#[]⟩, .int .i64 0]), 8, 104) := by kernel_rfl
theorem eight_cell {w : World} {x : Ins} {va vt : Value} : ∀ (j : Nat) (u : Value), (insCells x va vt)[j]? = some u → (w.alloc (.cells (insCells x va vt).toArray 38)).cell? ((⟨w.heap.size, 0, none⟩ : Addr).add j) = some u :=
  World.news_of_block (cs := (insCells x va vt).toArray) (heap_alloc_new w _)
theorem eight_one {x : Ins} {ao ap : Option Addr} {m n c d : Nat} : ∀ u ∈ insCells x (.slice ao m c) (.slice ap n d), u.oneCell' = true := by
  intro u hu
  simp only [insCells, List.mem_cons, List.not_mem_nil, or_false] at hu
  rcases hu with rfl | rfl | rfl | rfl | rfl | rfl | rfl | rfl <;> rfl
/-- One more instruction is met. -/
theorem Rdr.count {B a : Nat} {L : List Tok} {E : Int} {n : Nat} {l : List Tok} {w : World} (h : Rdr B a L E n l w) (hn : n < 4096) : Rdr B a L E (n + 1) l (w.setCell ⟨a, 3, none⟩ (.int .i64 ((n : Int) + 1))) := by
  obtain ⟨v, h1, h2, h3, h4, h5, h6, h7, h8⟩ := h
  have hsz : (w.setCell ⟨a, 3, none⟩ (.int .i64 ((n : Int) + 1))).heap.size = w.heap.size := by simp [World.setCell]
  refine ⟨v, ?_, ?_, h3, h4, h5, h6, by omega, by rw [hsz]; exact h8⟩
  · rw [heap_setCell_same w a 3 _ 48 _ h1]
    rw [show (n : Int) + 1 = ((n + 1 : Nat) : Int) from by omega]; rfl
  · exact own_setCell h2 (own_ne h2 h1 (by decide)) _
abbrev blockG (E : Int) (k n : Nat) : G.Rd (List Ins × Nat) := G.block numF idxF namF shpF tksF fndF mksF prtF E k n
abbrev insG (E : Int) (f n : Nat) (acc : List Ins) : G.Rd (List Ins × Nat) := G.insW numF idxF namF shpF tksF fndF mksF E f n acc
theorem head_none {E : Int} {k : Nat} {l : List Tok} (hk : k < 256) (h : G.mark idxF 98 255 (peek0 l) = none) : G.head prtF E k l = .error (7, atOf E l) := by
  refine (one_none (if_pos (.inr (.inr (by unfold prtF; rw [h]; simp))))).trans ?_
  show Except.error ((if 256 ≤ k then (6 : Int) else 7), atOf E l) = _
  rw [if_neg (by omega)]
theorem head_other {E j : Int} {k : Nat} {l : List Tok} (hk : k < 256) (h : G.mark idxF 98 255 (peek0 l) = some j) (hj : ¬ j = (k : Int)) : G.head prtF E k l = .error (7, atOf E l) := by
  refine (one_none (if_pos (.inr (.inr (by unfold prtF; rw [h]; simp [hj]))))).trans ?_
  show Except.error ((if 256 ≤ k then (6 : Int) else 7), atOf E l) = _
  rw [if_neg (by omega)]
theorem head_good {E : Int} {k : Nat} {l : List Tok} (hk : k < 256) (h : G.mark idxF 98 255 (peek0 l) = some (k : Int)) : G.head prtF E k l = .ok ((), l.tail) := by
  refine one_some (if_neg (fun c => ?_))
  rcases c with c | c | c
  · omega
  · rw [c] at h; cases h
  · unfold prtF at c; rw [h] at c; simp at c
theorem block_head {E : Int} {k n : Nat} {l : List Tok} {er : Er} (h : G.head prtF E k l = .error er) : blockG E k n l = .error er := by
  unfold blockG G.block; rw [h]; rfl
theorem block_word {E : Int} {k n : Nat} {l l' : List Tok} {er : Er} (h : G.head prtF E k l = .ok ((), l')) (hw : G.want E [58] l' = .error er) : blockG E k n l = .error er := by
  unfold blockG G.block; rw [h]; show G.andThen (G.want E [58] l') _ = _; rw [hw]; rfl
theorem block_body {E : Int} {k n : Nat} {l l' l2 : List Tok} (h : G.head prtF E k l = .ok ((), l')) (hw : G.want E [58] l' = .ok ((), l2)) : blockG E k n l = insG E (l2.length + 1) n [] l2 := by
  unfold blockG G.block; rw [h]; show G.andThen (G.want E [58] l') _ = _; rw [hw]; rfl
theorem ins_stop {E : Int} {f n : Nat} {acc : List Ins} {l : List Tok} (h : peek0 l = [125] ∨ peek1 l = [58]) : insG E (f + 1) n acc l = .ok ((acc, n), l) := by
  unfold insG G.insW; rw [if_pos h]
theorem ins_many {E : Int} {f n : Nat} {acc : List Ins} {l : List Tok} (h : ¬ (peek0 l = [125] ∨ peek1 l = [58])) (hn : 4096 ≤ n) : insG E (f + 1) n acc l = .error (6, atOf E l) := by
  unfold insG G.insW; rw [if_neg h, if_pos hn]
theorem ins_bad {E : Int} {f n : Nat} {acc : List Ins} {l : List Tok} {er : Er} (h : ¬ (peek0 l = [125] ∨ peek1 l = [58])) (hn : n < 4096) (hi : instrP E l = .error er) : insG E (f + 1) n acc l = .error er := by
  unfold insG G.insW; rw [if_neg h, if_neg (by omega), instr_eq, hi]; rfl
theorem ins_go {E : Int} {f n : Nat} {acc : List Ins} {l l' : List Tok} {x : Ins} (h : ¬ (peek0 l = [125] ∨ peek1 l = [58])) (hn : n < 4096) (hi : instrP E l = .ok (x, l')) : insG E (f + 1) n acc l = insG E f (n + 1) (acc ++ [x]) l' := by
  conv => lhs; unfold insG G.insW
  rw [if_neg h, if_neg (by omega), instr_eq, hi]; rfl
theorem instr_less {E : Int} {l l' : List Tok} {x : Ins} (h : instrP E l = .ok (x, l')) : l'.length < l.length := by
  rw [← instr_eq] at h
  obtain ⟨h1, h2⟩ := G.instr_eats nam_nil num_nil shp_nil fnd_nil l x l' h
  have := h2.length_le
  have := tail_bulk h1
  omega
end Go.Proofs.YtkkkgennkhdfhaaDoor
