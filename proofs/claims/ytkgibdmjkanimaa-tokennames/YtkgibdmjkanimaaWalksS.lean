/- What Split of layer 2 returns, for every text of at most 65536 bytes: its words and where they stand, or the first byte that no word has. -/
import Derived.Test.YtkgibdmjkanimaaWalksA
import Derived.Lib.OthersKept
namespace Go.Proofs.Ytkgibdmjkanimaa
open Go.RowKit

theorem hideS {p : Prop} (h : p) : Hid p := h
theorem unhideS {p : Prop} (h : Hid p) : p := h
/-- The cells of words: each one's text and where it begins. -/
def cellsT : List (ByteArray × Int) → List Value
  | [] => []
  | t :: r => .string t.1 :: .int .i64 t.2 :: cellsT r
def tok (s : ByteArray) (x : Nat × Nat) : ByteArray × Int := (s.extract x.1 x.2, (x.1 : Int))
theorem cellsT_append (a b : List (ByteArray × Int)) : cellsT (a ++ b) = cellsT a ++ cellsT b := by
  induction a with
  | nil => rfl
  | cons t r ih => simp [cellsT, ih]
theorem cellsT_snoc (s : ByteArray) (ws : List (Nat × Nat)) (a b : Nat) : cellsT ((ws ++ [(a, b)]).map (tok s)) = cellsT (ws.map (tok s)) ++ [.string (s.extract a b), .int .i64 a] := by
  rw [List.map_append, cellsT_append]; rfl
theorem below_grown {w w' : World} (h : Below w.heap.size w w') : w.grownBy w' none := ⟨h.1, h.2, h.3, h.4, fun k hk _ => h.5 k hk⟩
theorem Try.info32 : (Try.prog.info? 32).map (fun i => (i.zero, i.size, i.bytes)) = some (some (.agg #[.string ⟨#[]⟩, .int .i64 0]), 2, 24) := by kernel_rfl
/-- What stands in memory while the text is gone through: the words so far, the place, the place for what is wrong. -/
def Going (w : World) (s : ByteArray) (v : Value) (ws : List (Nat × Nat)) (pos : Nat) (wr : World) : Prop :=
  wr.ownsRow (w.heap.size + 2) 32 2 v ws.length (cellsT (ws.map (tok s))) ∧ wr.heap[w.heap.size + 1]? = some (.stringIter s pos) ∧
  wr.heap[w.heap.size]? = some (.cells #[.int .i64 0, .int .i64 0] 26 (0, 0)) ∧ Below w.heap.size w wr
/-- Where a word has begun, or -1. -/
def bg : Option Nat → Int
  | none => -1
  | some q => q
theorem going_start (w : World) (s : ByteArray) : Going w s (.slice none 0 0) [] 0 ((w.alloc (Obj.cells #[Value.int IntKind.i64 0, Value.int IntKind.i64 0] 26)).iter s 0) := by
  refine ⟨World.ownsRow_nil _ _ _ _, ?_, ?_, ((Below.refl _ w).alloc (Nat.le_refl _) _).alloc (by simp) _⟩
  · have := World.iter_heap (w.alloc (.cells #[Value.int IntKind.i64 0, Value.int IntKind.i64 0] 26)) s 0
    simpa using this
  · exact (heap_alloc_old _ _ (by simp)).trans (heap_alloc_new w _)
theorem own_iterAt {w : World} {B k : Nat} {v : Value} {n : Nat} {xs : List Value} (h : w.ownsRow B 32 2 v n xs) (s : ByteArray) (p : Nat) (hk : k < B) : (w.iterAt k s p).ownsRow B 32 2 v n xs := by
  refine ⟨h.1, ?_⟩
  rcases h.2 with hn | ⟨g, cap, cur, hv, hbg, hg, rest⟩
  · exact .inl hn
  · exact .inr ⟨g, cap, cur, hv, hbg, (Lib.iterAt_other w k g s p (by omega)).trans hg, rest⟩
theorem going_iter {w wr : World} {s : ByteArray} {v : Value} {ws : List (Nat × Nat)} {pos : Nat} (h : Going w s v ws pos wr) (p : Nat) : Going w s v ws p (wr.iterAt (w.heap.size + 1) s p) :=
  ⟨own_iterAt h.1 s p (by omega), Lib.iterAt_heap wr _ s pos p h.2.1, (Lib.iterAt_other wr _ _ s p (by omega)).trans h.2.2.1, Lib.below_iterAt h.2.2.2 (by omega) s p⟩
theorem going_lt {w wr : World} {s : ByteArray} {v : Value} {ws : List (Nat × Nat)} {pos : Nat} (h : Going w s v ws pos wr) : w.heap.size + 2 ≤ wr.heap.size := by
  have := (Array.getElem?_eq_some_iff.1 h.2.1).1
  omega
theorem going_own {w wr w1 : World} {s : ByteArray} {v : Value} {ws : List (Nat × Nat)} {pos : Nat} (h : Going w s v ws pos wr) (h1 : Below wr.heap.size wr w1) (o : Obj) : (w1.alloc o).ownsRow (w.heap.size + 2) 32 2 v ws.length (cellsT (ws.map (tok s))) :=
  (h.1.kept (below_grown h1) (by cases hv : v.ownBlock <;> simp)).alloc o
theorem going_step {w wr w1 w2 : World} {s : ByteArray} {v v' : Value} {ws : List (Nat × Nat)} {pos a b : Nat} {o : Obj} (h : Going w s v ws pos wr) (h1 : Below wr.heap.size wr w1)
    (own : w2.ownsRow (w.heap.size + 2) 32 2 v' (ws.length + 1) (cellsT (ws.map (tok s)) ++ [.string (s.extract a b), .int .i64 a])) (hg : (w1.alloc o).grownBy w2 v.ownBlock) : Going w s v' (ws ++ [(a, b)]) pos w2 := by
  have hlt := going_lt h
  have hs1 := h1.size
  have hbl : ∀ k, k < w.heap.size + 2 → w2.heap[k]? = wr.heap[k]? := by
    intro k hk
    rw [hg.block k (by simp; omega) ?_, heap_alloc_old _ _ (by omega), (below_grown h1).block k (by omega) (by simp)]
    intro e
    have := (h.1.lt k e.symm).1
    omega
  refine ⟨?_, (hbl _ (by omega)).trans h.2.1, (hbl _ (by omega)).trans h.2.2.1, ?_⟩
  · rw [cellsT_snoc, List.length_append]; exact own
  · refine Below.grown ((h.2.2.2.trans (h1.mono (by omega))).alloc (by omega) o) hg (by simp; omega) ?_
    intro k hk
    have := (h.1.lt k hk).1
    omega
theorem cells_two {w1 : World} {a b : Value} {t : TypeId} : ∀ j u, [a, b][j]? = some u → (w1.alloc (.cells #[a, b] t)).cell? ((⟨w1.heap.size, 0, none⟩ : Addr).add j) = some u := by
  intro j u hj
  match j, hj with
  | 0, hj => simp at hj; subst hj; simp [Addr.add]
  | 1, hj => simp at hj; subst hj; simp [Addr.add]
theorem one_two {s : ByteArray} {a : Int} : ∀ u ∈ [Value.string s, Value.int .i64 a], u.oneCell' = true := by
  intro u hu
  simp only [List.mem_cons, List.not_mem_nil, or_false] at hu
  rcases hu with rfl | rfl <;> rfl

/-! ### One letter -/
theorem rune_ascii {s : ByteArray} {p : Nat} (h : p < s.size) (hc : ¬ 128 ≤ ((Utf8.decode s p).1 : Int)) : (Utf8.decode s p) = ((s[p]'h).toNat, 1) := by
  by_cases ha : (s[p]'h).toNat < 128
  · exact decode_ascii s p h ha
  · have := (decode_high s p h (by omega)).1
    omega
theorem rune_size {s : ByteArray} {p : Nat} (h : p < s.size) : p + (Utf8.decode s p).2 ≤ s.size ∧ 1 ≤ (Utf8.decode s p).2 := by
  by_cases ha : (s[p]'h).toNat < 128
  · rw [decode_ascii s p h ha]; exact ⟨by show p + 1 ≤ _; omega, Nat.le_refl _⟩
  · exact ⟨(decode_all s p h (by omega)).1, (decode_high s p h (by omega)).2⟩
theorem rune_note {s : ByteArray} {p : Nat} (h : p < s.size) (ws : List (Nat × Nat)) (b : Option Nat) : scan (s.data.toList.drop p) p ws b true = scan (s.data.toList.drop (p + (Utf8.decode s p).2)) (p + (Utf8.decode s p).2) ws b (!eolB (Utf8.decode s p).1) := by
  by_cases ha : (s[p]'h).toNat < 128
  · rw [decode_ascii s p h ha, drop_cons s p h, scan_note]
  · have hh := (decode_high s p h (by omega)).1
    rw [(high_kinds (c := ((Utf8.decode s p).1 : Int)) (by omega)).2.2.2.2.1]
    exact scan_pass s p ws b h (by omega)
theorem rune_tog {s : ByteArray} {p : Nat} (h : p < s.size) (ws : List (Nat × Nat)) (b : Option Nat) (h1 : togB (Utf8.decode s p).1 = true) : scan (s.data.toList.drop p) p ws b false = scan (s.data.toList.drop (p + (Utf8.decode s p).2)) (p + (Utf8.decode s p).2) ws (some (b.getD p)) false := by
  have hc : ¬ 128 ≤ ((Utf8.decode s p).1 : Int) := fun k => by rw [(high_kinds k).1] at h1; cases h1
  rw [rune_ascii h hc] at h1 ⊢
  rw [drop_cons s p h, scan_tog _ _ _ _ h1]
theorem rune_alo {s : ByteArray} {p : Nat} (h : p < s.size) (ws : List (Nat × Nat)) (b : Option Nat) (h1 : togB (Utf8.decode s p).1 = false) (h2 : aloB (Utf8.decode s p).1 = true) : scan (s.data.toList.drop p) p ws b false = scan (s.data.toList.drop (p + (Utf8.decode s p).2)) (p + (Utf8.decode s p).2) (shutW ws b p ++ [(p, p + 1)]) none false := by
  have hc : ¬ 128 ≤ ((Utf8.decode s p).1 : Int) := fun k => by rw [(high_kinds k).2.1] at h2; cases h2
  rw [rune_ascii h hc] at h1 h2 ⊢
  rw [drop_cons s p h, scan_alo _ _ _ _ h1 h2]
theorem rune_hash {s : ByteArray} {p : Nat} (h : p < s.size) (ws : List (Nat × Nat)) (b : Option Nat) (h1 : togB (Utf8.decode s p).1 = false) (h2 : aloB (Utf8.decode s p).1 = false) (h3 : ((Utf8.decode s p).1 : Int) = 35) : scan (s.data.toList.drop p) p ws b false = scan (s.data.toList.drop (p + (Utf8.decode s p).2)) (p + (Utf8.decode s p).2) (shutW ws b p) none true := by
  have hc : ¬ 128 ≤ ((Utf8.decode s p).1 : Int) := by omega
  rw [rune_ascii h hc] at h1 h2 h3 ⊢
  rw [drop_cons s p h, scan_hash _ _ _ _ h1 h2 h3]
theorem rune_bla {s : ByteArray} {p : Nat} (h : p < s.size) (ws : List (Nat × Nat)) (b : Option Nat) (h1 : togB (Utf8.decode s p).1 = false) (h2 : aloB (Utf8.decode s p).1 = false) (h3 : ¬ ((Utf8.decode s p).1 : Int) = 35) (h4 : blaB (Utf8.decode s p).1 = true) : scan (s.data.toList.drop p) p ws b false = scan (s.data.toList.drop (p + (Utf8.decode s p).2)) (p + (Utf8.decode s p).2) (shutW ws b p) none false := by
  have hc : ¬ 128 ≤ ((Utf8.decode s p).1 : Int) := fun k => by rw [(high_kinds k).2.2.2.1] at h4; cases h4
  rw [rune_ascii h hc] at h1 h2 h3 h4 ⊢
  rw [drop_cons s p h, scan_bla _ _ _ _ h1 h2 h3 h4]
theorem rune_err {s : ByteArray} {p : Nat} (h : p < s.size) (ws : List (Nat × Nat)) (b : Option Nat) (h1 : togB (Utf8.decode s p).1 = false) (h2 : aloB (Utf8.decode s p).1 = false) (h3 : ¬ ((Utf8.decode s p).1 : Int) = 35) (h4 : blaB (Utf8.decode s p).1 = false) : scan (s.data.toList.drop p) p ws b false = .inl p := by
  rw [drop_cons s p h]
  by_cases ha : (s[p]'h).toNat < 128
  · rw [decode_ascii s p h ha] at h1 h2 h3 h4
    exact scan_err _ _ _ _ h1 h2 h3 h4
  · have hk := high_kinds (c := ((s[p]'h).toNat : Int)) (by omega)
    exact scan_err _ _ _ _ hk.1 hk.2.1 hk.2.2.1 hk.2.2.2.1
end Go.Proofs.Ytkgibdmjkanimaa
