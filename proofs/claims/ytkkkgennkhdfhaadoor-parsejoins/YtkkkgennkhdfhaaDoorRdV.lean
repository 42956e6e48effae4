/- A program is read. -/
import Derived.Test.YtkkkgennkhdfhaaDoorRdU
namespace Go.Proofs.YtkkkgennkhdfhaaDoor
open Go Go.RowKit
open G (Tok Er Ins Fun peek0 peek1 atOf)

/-- The cells of functions, one behind the other. -/
def FRow (B : Nat) (w : World) : List Fun → List Value → Prop
  | [], cs => cs = []
  | x :: r, cs => ∃ vp vb rest, cs = funCells x vp vb ++ rest ∧ w.ownsRow B 3 1 vp x.2.1.length (ints x.2.1) ∧ BlksVal B x.2.2.2.1 vb w ∧ FRow B w r rest
theorem FRow.stay {B B' : Nat} {w w' : World} (hs : Stay B B' w w') : ∀ (l : List Fun) (cs : List Value), FRow B w l cs → FRow B' w' l cs := by
  intro l
  induction l with
  | nil => intro cs h; exact h
  | cons x r ih =>
    rintro cs ⟨vp, vb, rest, h1, h2, h3, h4⟩
    exact ⟨vp, vb, rest, h1, hs _ _ _ _ _ (by simp) h2, h3.stay hs, ih rest h4⟩
theorem FRow.snoc {B : Nat} {w : World} {x : Fun} {vp vb : Value} (h1 : w.ownsRow B 3 1 vp x.2.1.length (ints x.2.1)) (h2 : BlksVal B x.2.2.2.1 vb w) : ∀ (l : List Fun) (cs : List Value), FRow B w l cs → FRow B w (l ++ [x]) (cs ++ funCells x vp vb) := by
  intro l
  induction l with
  | nil => intro cs h; cases h; exact ⟨vp, vb, [], by simp, h1, h2, rfl⟩
  | cons y r ih =>
    rintro cs ⟨ua, ut, rest, rfl, h4, h5, h6⟩
    exact ⟨ua, ut, rest ++ funCells x vp vb, by simp, h4, h5, ih rest h6⟩
/-- The value of a list of functions. -/
def ProgVal (B : Nat) (xs : List Fun) (v : Value) (w : World) : Prop := ∃ cs, w.ownsRow B 34 5 v xs.length cs ∧ FRow B w xs cs
abbrev fwG (E : Int) (f n : Nat) (acc : List Fun) : G.Rd (List Fun × Nat) := G.funW numF idxF namF shpF tksF fndF mksF prtF E f n acc
abbrev progG (E : Int) : G.Rd (List Fun × Nat) := G.program numF idxF namF shpF tksF fndF mksF prtF E
theorem fw_stop {E : Int} {f n : Nat} {acc : List Fun} : fwG E (f + 1) n acc [] = .ok ((acc, n), []) := by
  unfold fwG G.funW; rw [if_pos rfl]
theorem fw_many {E : Int} {f n : Nat} {acc : List Fun} {l : List Tok} (h : l ≠ []) (hn : 32 ≤ acc.length) : fwG E (f + 1) n acc l = .error (6, atOf E l) := by
  unfold fwG G.funW; rw [if_neg h, if_pos hn]
theorem fw_bad {E : Int} {f n : Nat} {acc : List Fun} {l : List Tok} {er : Er} (h : l ≠ []) (hn : acc.length < 32) (hi : funG E n l = .error er) : fwG E (f + 1) n acc l = .error er := by
  unfold fwG G.funW; rw [if_neg h, if_neg (by omega)]; show G.andThen (funG E n l) _ = _; rw [hi]; rfl
theorem fw_go {E : Int} {f n n' : Nat} {acc : List Fun} {l l' : List Tok} {x : Fun} (h : l ≠ []) (hn : acc.length < 32) (hi : funG E n l = .ok ((x, n'), l')) : fwG E (f + 1) n acc l = fwG E f n' (acc ++ [x]) l' := by
  conv => lhs; unfold fwG G.funW
  rw [if_neg h, if_neg (by omega)]; show G.andThen (funG E n l) _ = _; rw [hi]; rfl
theorem fun_ok {B a : Nat} {L : List Tok} {E : Int} {n n' : Nat} {l l' : List Tok} {x : Fun} {w : World} (h : Rdr B a L E n l w) (ht : Tabs w) (h2 : 2 ≤ a) (hr : funG E n l = .ok ((x, n'), l')) :
    Calls Tryd.prog 33 #[.pointer (some ⟨a, 0, none⟩)] w fun e w' => ∃ ao m c ap m2 c2, e = .returned (.agg (funCells x (.slice ao m c) (.slice ap m2 c2)).toArray) ∧ w'.ownsRow w.heap.size 3 1 (.slice ao m c) x.2.1.length (ints x.2.1) ∧ BlksVal w.heap.size x.2.2.2.1 (.slice ap m2 c2) w' ∧ Kp w.heap.size a w w' ∧ Rdr B a L E n' l' w' :=
  (function_any w h ht h2).mono fun e w' ⟨k1, hh⟩ => by
    rcases hh with ⟨y, m, l2, v, hx, rfl, ⟨vp, vb, rfl, o1, o2⟩, r⟩ | ⟨er, hx, _⟩
    · rw [hr] at hx
      cases hx
      obtain ⟨ao, m, c, rfl⟩ := own_slice o1
      obtain ⟨ap, m2, c2, rfl⟩ := own_slice o2.choose_spec.1
      exact ⟨ao, m, c, ap, m2, c2, rfl, o1, o2, k1, r⟩
    · rw [hr] at hx; cases hx
theorem fun_err {B a : Nat} {L : List Tok} {E : Int} {n : Nat} {l : List Tok} {er : Er} {w : World} (h : Rdr B a L E n l w) (ht : Tabs w) (h2 : 2 ≤ a) (hr : funG E n l = .error er) :
    Calls Tryd.prog 33 #[.pointer (some ⟨a, 0, none⟩)] w fun e w' => e = thrown er.1 er.2 ∧ Kp w.heap.size a w w' :=
  (function_any w h ht h2).mono fun e w' ⟨k1, hh⟩ => by
    rcases hh with ⟨y, m, l2, v, hx, _⟩ | ⟨er2, hx, rfl⟩
    · rw [hr] at hx; cases hx
    · rw [hr] at hx; cases hx; exact ⟨rfl, k1⟩
theorem Tryd.info34 : (Tryd.prog.info? 34).map (fun i => (i.zero, i.size, i.bytes)) = some (some (.agg #[.string ⟨#[]⟩, .slice none 0 0, .int .i64 0, .slice none 0 0, .int .i64 0]), 5, 80) := by kernel_rfl
theorem five_cell {w : World} {x : Fun} {vp vb : Value} : ∀ (j : Nat) (u : Value), (funCells x vp vb)[j]? = some u → (w.alloc (.cells (funCells x vp vb).toArray 34)).cell? ((⟨w.heap.size, 0, none⟩ : Addr).add j) = some u :=
  World.news_of_block (cs := (funCells x vp vb).toArray) (heap_alloc_new w _)
theorem five_one {x : Fun} {ao ap : Option Addr} {m n c d : Nat} : ∀ u ∈ funCells x (.slice ao m c) (.slice ap n d), u.oneCell' = true := by
  intro u hu
  simp only [funCells, List.mem_cons, List.not_mem_nil, or_false] at hu
  rcases hu with rfl | rfl | rfl | rfl | rfl <;> rfl
theorem blk_len {E : Int} : ∀ (f n : Nat) (acc : List (List Ins)) (l : List Tok) (v : List (List Ins) × Nat) (r : List Tok), blkG E f n acc l = .ok (v, r) → r.length ≤ l.length := by
  intro f
  induction f with
  | zero => intro n acc l v r h; cases h; exact Nat.le_refl _
  | succ f ih =>
    intro n acc l v r h
    by_cases hc : peek0 l = [125]
    · rw [blk_stop hc] at h; cases h; exact Nat.le_refl _
    · cases hi : blockG E acc.length n l with
      | error er => rw [blk_bad hc hi] at h; cases h
      | ok q =>
        obtain ⟨⟨b, n'⟩, l1⟩ := q
        rw [blk_go hc hi] at h
        have := ih _ _ _ _ _ h
        have := block_less hi
        omega
theorem fun_less {E : Int} {n n' : Nat} {l l' : List Tok} {x : Fun} (h : funG E n l = .ok ((x, n'), l')) : l'.length < l.length := by
  obtain ⟨u1, l1, h1, h⟩ := G.then_ok h
  obtain ⟨s, l2, h2, h⟩ := G.then_ok h
  obtain ⟨u3, l3, h3, h⟩ := G.then_ok h
  obtain ⟨p, l4, h4, h⟩ := G.then_ok h
  obtain ⟨u5, l5, h5, h⟩ := G.then_ok h
  obtain ⟨t, l6, h6, h⟩ := G.then_ok h
  obtain ⟨u7, l7, h7, h⟩ := G.then_ok h
  obtain ⟨b, l8, h8, h⟩ := G.then_ok h
  obtain ⟨u9, l9, h9, h⟩ := G.then_ok h
  cases h
  have s1 := (G.want_sim (d := 0) (m := []) (E' := E) (by simp) l u1 l1 h1).1.length_le
  have s2 := (G.name_sim (d := 0) (m := []) (E' := E) nam_nil l1 s l2 h2).1.length_le
  have s3 := (G.want_sim (d := 0) (m := []) (E' := E) (by simp) l2 u3 l3 h3).1.length_le
  have s4 := (G.params_sim (d := 0) (m := []) (E' := E) l3 p l4 h4).1.length_le
  have s5 := (G.want_sim (d := 0) (m := []) (E' := E) (by simp) l4 u5 l5 h5).1.length_le
  have s6 := (G.answer_sim (d := 0) (m := []) (E' := E) l5 t l6 h6).1.length_le
  have s7 := (G.want_sim (d := 0) (m := []) (E' := E) (by simp) l6 u7 l7 h7).1.length_le
  obtain ⟨g1, g2, _⟩ := G.want_ok (by simp) h9
  have s8 := blk_len _ _ _ _ _ _ h8
  have := tail_bulk g1
  rw [g2] at *
  omega
/-- What stands in memory while a program is read. -/
def MidP (w : World) (a c : Nat) (L : List Tok) (E : Int) (n : Nat) (xs : List Fun) (l : List Tok) (wk : World) : Prop :=
  Rdr (w.heap.size + 1) a L E n l wk ∧ (∃ v, wk.heap[c]? = some (.cells #[v] 25 (0, 0)) ∧ ProgVal (w.heap.size + 1) xs v wk) ∧ wk.heap[w.heap.size]? = some (.cells #[.slice none 0 0] 25 (0, 0)) ∧ Kp w.heap.size a w wk ∧ Tabs wk ∧ 2 ≤ a ∧ w.heap.size < c
theorem MidP.lt {w : World} {a c : Nat} {L : List Tok} {E : Int} {n : Nat} {xs : List Fun} {l : List Tok} {wk : World} (h : MidP w a c L E n xs l wk) : a < w.heap.size ∧ w.heap.size < c ∧ c < wk.heap.size ∧ w.heap.size < wk.heap.size := by
  obtain ⟨h1, ⟨v, h2, _⟩, h3, h4, h5, h6, h7⟩ := h
  have := h1.suffix.2.2.2
  have := (Array.getElem?_eq_some_iff.1 h2).1
  have hne : a ≠ w.heap.size := by
    intro e
    obtain ⟨v, hv, _⟩ := h1
    rw [e, h3] at hv
    simp at hv
  have := (Array.getElem?_eq_some_iff.1 h3).1
  omega
theorem MidP.kp {w : World} {a c : Nat} {L : List Tok} {E : Int} {n n' : Nat} {xs : List Fun} {l l' : List Tok} {wk wk' : World} (h : MidP w a c L E n xs l wk) (k : Kp wk.heap.size a wk wk') (r : Rdr (w.heap.size + 1) a L E n' l' wk') : MidP w a c L E n' xs l' wk' := by
  have hl := h.lt
  obtain ⟨h1, ⟨v, h2, cs, h8, h9⟩, h3, h4, h5, h6, h7⟩ := h
  exact ⟨r, ⟨v, (k.2.2.2.2 _ (by omega) (by omega)).trans h2, cs, own_kept k (by omega) _ _ _ _ _ h8, FRow.stay (stay_kp k (by omega)) _ _ h9⟩, (k.2.2.2.2 _ (by omega) (by omega)).trans h3, h4.trans (k.mono h4.size), h5.kp k h6 (by omega), h6, h7⟩
theorem MidP.step {w : World} {a c : Nat} {L : List Tok} {E : Int} {n : Nat} {xs : List Fun} {l : List Tok} {wk wk' : World} (h : MidP w a c L E n xs l wk) (b : Below wk.heap.size wk wk') : MidP w a c L E n xs l wk' :=
  h.kp (Kp.of_belowW b (Nat.le_refl _)) (h.1.step b)
/-- What the reading of a program answers. -/
def OutP (a : Nat) (r : Except Er ((List Fun × Nat) × List Tok)) (w : World) (e : Ending) (w' : World) : Prop :=
  Kp w.heap.size a w w' ∧ ((∃ xs n l' v, r = .ok ((xs, n), l') ∧ e = .returned (.agg #[v]) ∧ ProgVal w.heap.size xs v w') ∨ ∃ er : Er, r = .error er ∧ e = thrown er.1 er.2)
theorem Rdr.words {B a : Nat} {L : List Tok} {E : Int} {n : Nat} {l : List Tok} {w : World} (h : Rdr B a L E n l w) : ∃ ao cap, w.cell? ⟨a, 0, none⟩ = some (.slice ao L.length cap) ∧ w.cell? ⟨a, 1, none⟩ = some (.int .i64 ((L.length - l.length : Nat) : Int)) := by
  obtain ⟨v, h1, h2, _⟩ := h
  obtain ⟨ao, cap, rfl⟩ := own_len h2
  exact ⟨ao, cap, by simp [World.cell?, h1], by simp [World.cell?, h1]⟩
end Go.Proofs.YtkkkgennkhdfhaaDoor
