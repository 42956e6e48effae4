/- Functions and programs in memory. -/
import Derived.Test.YtkkkgennkhdfhaaDoorRdS
namespace Go.Proofs.YtkkkgennkhdfhaaDoor
open Go Go.RowKit
open G (Tok Er Ins Fun peek0 peek1 atOf)

/-- From one world to another all lists of the types 3, 36 and 38 stay. -/
def Stay (B B' : Nat) (w w' : World) : Prop := ∀ (e s : Nat) (v : Value) (n : Nat) (xs : List Value), e = 3 ∨ e = 36 ∨ e = 38 → w.ownsRow B e s v n xs → w'.ownsRow B' e s v n xs
theorem Stay.trans {A B C : Nat} {u v w : World} (h : Stay A B u v) (k : Stay B C v w) : Stay A C u w := fun e s x n xs he ho => k e s x n xs he (h e s x n xs he ho)
theorem stay_below {B : Nat} {w w' : World} (b : Below w.heap.size w w') : Stay B B w w' := fun e s v n xs _ h => own_below b B e s v n xs h
theorem stay_kp {B a : Nat} {w w' : World} (k : Kp w.heap.size a w w') (ha : a < B) : Stay B B w w' := fun e s v n xs _ h => own_kept k ha e s v n xs h
theorem stay_base {B B' : Nat} {w : World} (hB : B' ≤ B) : Stay B B' w w := fun _ _ _ _ _ _ h => own_base h hB
theorem stay_far {q B : Nat} {w w' : World} (hf : Far q w w') (hq : ∀ (e s : Nat) (v : Value) (n : Nat) (xs : List Value), e = 3 ∨ e = 36 ∨ e = 38 → w.ownsRow B e s v n xs → v.ownBlock ≠ some q) : Stay B B w w' := fun e s v n xs he h => hf.own h (hq e s v n xs he h)
theorem far_kind {q B t : Nat} {w w' : World} (hf : Far q w w') {c : Array Value} {fz : Nat × Nat} (hc : w.heap[q]? = some (.cells c t fz)) (ht : t ≠ 3 ∧ t ≠ 36 ∧ t ≠ 38) : Stay B B w w' :=
  stay_far hf fun e s v n xs he h => by
    refine own_ne h hc ?_
    rcases he with rfl | rfl | rfl
    · exact ht.1
    · exact ht.2.1
    · exact ht.2.2
theorem stay_grown {B B' e' s' n : Nat} {w w' : World} {row : Value} {ys : List Value} (hg : w.grownBy w' row.ownBlock) (hr : w.ownsRow B' e' s' row n ys) (he' : e' ≠ 3 ∧ e' ≠ 36 ∧ e' ≠ 38) : Stay B B w w' := fun e s v m xs he h => own_other hg hr (by omega) v m xs h
theorem BlkVal.stay {B B' : Nat} {xs : List Ins} {v : Value} {w w' : World} (h : BlkVal B xs v w) (hs : Stay B B' w w') : BlkVal B' xs v w' := by
  obtain ⟨cs, h1, h2⟩ := h
  exact ⟨cs, hs _ _ _ _ _ (by simp) h1, InsRow.keep (fun v n xs h => hs 3 1 v n xs (by simp) h) _ _ h2⟩
/-- The values of blocks, one behind the other. -/
def BRow (B : Nat) (w : World) : List (List Ins) → List Value → Prop
  | [], vs => vs = []
  | b :: r, vs => ∃ v rest, vs = v :: rest ∧ BlkVal B b v w ∧ BRow B w r rest
theorem BRow.keep {B B' : Nat} {w w' : World} (hk : ∀ xs v, BlkVal B xs v w → BlkVal B' xs v w') : ∀ (l : List (List Ins)) (vs : List Value), BRow B w l vs → BRow B' w' l vs := by
  intro l
  induction l with
  | nil => intro vs h; exact h
  | cons b r ih =>
    rintro vs ⟨v, rest, h1, h2, h3⟩
    exact ⟨v, rest, h1, hk _ _ h2, ih rest h3⟩
theorem BRow.snoc {B : Nat} {w : World} {b : List Ins} {v : Value} (h : BlkVal B b v w) : ∀ (l : List (List Ins)) (vs : List Value), BRow B w l vs → BRow B w (l ++ [b]) (vs ++ [v]) := by
  intro l
  induction l with
  | nil => intro vs hv; cases hv; exact ⟨v, [], rfl, h, rfl⟩
  | cons y r ih =>
    rintro vs ⟨u, rest, rfl, h4, h5⟩
    exact ⟨u, rest ++ [v], rfl, h4, ih rest h5⟩
/-- The value of a list of blocks. -/
def BlksVal (B : Nat) (bl : List (List Ins)) (v : Value) (w : World) : Prop := ∃ vs, w.ownsRow B 36 1 v bl.length vs ∧ BRow B w bl vs
theorem BlksVal.stay {B B' : Nat} {bl : List (List Ins)} {v : Value} {w w' : World} (h : BlksVal B bl v w) (hs : Stay B B' w w') : BlksVal B' bl v w' := by
  obtain ⟨vs, h1, h2⟩ := h
  exact ⟨vs, hs _ _ _ _ _ (by simp) h1, BRow.keep (fun _ _ h => h.stay hs) _ _ h2⟩
def funCells (x : Fun) (vp vb : Value) : List Value := [.string (bs x.1), vp, .int .i64 x.2.2.1, vb, .int .i64 x.2.2.2.2]
/-- The function x stands at block c, its lists at blocks from B on. -/
def FunAt (B c : Nat) (x : Fun) (w : World) : Prop :=
  ∃ vp vb, w.heap[c]? = some (.cells (funCells x vp vb).toArray 34 (0, 0)) ∧ w.ownsRow B 3 1 vp x.2.1.length (ints x.2.1) ∧ BlksVal B x.2.2.2.1 vb w ∧ B ≤ c
def FunVal (B : Nat) (x : Fun) (v : Value) (w : World) : Prop :=
  ∃ vp vb, v = .agg (funCells x vp vb).toArray ∧ w.ownsRow B 3 1 vp x.2.1.length (ints x.2.1) ∧ BlksVal B x.2.2.2.1 vb w
theorem FunAt.stay {B c : Nat} {x : Fun} {w w' : World} (h : FunAt B c x w) (hs : Stay B B w w') (hc : w'.heap[c]? = w.heap[c]?) : FunAt B c x w' := by
  obtain ⟨vp, vb, h1, h2, h3, h4⟩ := h
  exact ⟨vp, vb, hc.trans h1, hs _ _ _ _ _ (by simp) h2, h3.stay hs, h4⟩
theorem FunAt.lt {B c : Nat} {x : Fun} {w : World} (h : FunAt B c x w) : c < w.heap.size ∧ B ≤ c := by
  obtain ⟨vp, vb, h1, h2, h3, h4⟩ := h
  exact ⟨(Array.getElem?_eq_some_iff.1 h1).1, h4⟩
theorem FunAt.put {B c i : Nat} {x y : Fun} {w : World} {v : Value} {vp' vb' : Value → Value → Value} (h : FunAt B c x w) (hy : ∀ vp vb, (funCells x vp vb).toArray.setIfInBounds i v = (funCells y (vp' vp vb) (vb' vp vb)).toArray) (hp : ∀ vp vb, w.ownsRow B 3 1 vp x.2.1.length (ints x.2.1) → w.ownsRow B 3 1 (vp' vp vb) y.2.1.length (ints y.2.1)) (hb : ∀ vp vb, BlksVal B x.2.2.2.1 vb w → BlksVal B y.2.2.2.1 (vb' vp vb) w) : FunAt B c y (w.setCell ⟨c, i, none⟩ v) := by
  obtain ⟨vp, vb, h1, h2, h3, h4⟩ := h
  have hs : Stay B B w (w.setCell ⟨c, i, none⟩ v) := far_kind ((Far.refl c w).set i v) h1 (by decide)
  refine ⟨vp' vp vb, vb' vp vb, ?_, hs _ _ _ _ _ (by simp) (hp vp vb h2), (hb vp vb h3).stay hs, h4⟩
  rw [heap_setCell_same w c i _ 34 _ h1, hy]
theorem FunAt.never80 {B c : Nat} {x : Fun} {w : World} (h : FunAt B c x w) : ∀ (cs : Array Value) (fz : Nat × Nat), w.heap[c]? ≠ some (.cells cs 80 fz) := fun cs fz hc => by
  obtain ⟨vp, vb, h1, _⟩ := h
  rw [h1] at hc
  simp at hc
def fName (x : Fun) (s : List UInt8) : Fun := (s, x.2.1, x.2.2.1, x.2.2.2.1, x.2.2.2.2)
def fParams (x : Fun) (p : List Int) : Fun := (x.1, p, x.2.2.1, x.2.2.2.1, x.2.2.2.2)
def fRet (x : Fun) (t : Int) : Fun := (x.1, x.2.1, t, x.2.2.2.1, x.2.2.2.2)
def fBlock (x : Fun) (b : List Ins) : Fun := (x.1, x.2.1, x.2.2.1, x.2.2.2.1 ++ [b], x.2.2.2.2)
theorem FunAt.name {B c : Nat} {x : Fun} {w : World} (h : FunAt B c x w) (s : List UInt8) : FunAt B c (fName x s) (w.setCell ⟨c, 0, none⟩ (.string (bs s))) :=
  h.put (vp' := fun vp _ => vp) (vb' := fun _ vb => vb) (fun _ _ => rfl) (fun _ _ h => h) (fun _ _ h => h)
theorem FunAt.params {B c : Nat} {x : Fun} {w : World} {p : List Int} {v : Value} (h : FunAt B c x w) (hp : w.ownsRow B 3 1 v p.length (ints p)) : FunAt B c (fParams x p) (w.setCell ⟨c, 1, none⟩ v) :=
  h.put (vp' := fun _ _ => v) (vb' := fun _ vb => vb) (fun _ _ => rfl) (fun _ _ _ => hp) (fun _ _ h => h)
theorem FunAt.ret {B c : Nat} {x : Fun} {w : World} (h : FunAt B c x w) (t : Int) : FunAt B c (fRet x t) (w.setCell ⟨c, 2, none⟩ (.int .i64 t)) :=
  h.put (vp' := fun vp _ => vp) (vb' := fun _ vb => vb) (fun _ _ => rfl) (fun _ _ h => h) (fun _ _ h => h)
theorem FunAt.blocks {B c : Nat} {x : Fun} {w : World} {bl : List (List Ins)} {v : Value} (h : FunAt B c x w) (hp : BlksVal B bl v w) : FunAt B c (x.1, x.2.1, x.2.2.1, bl, x.2.2.2.2) (w.setCell ⟨c, 3, none⟩ v) :=
  h.put (vp' := fun vp _ => vp) (vb' := fun _ _ => v) (fun _ _ => rfl) (fun _ _ h => h) (fun _ _ _ => hp)
theorem FunAt.new {B : Nat} {w : World} (hB : B ≤ w.heap.size) (p : Int) : FunAt B w.heap.size ([], [], 0, [], p) (w.alloc (.cells #[.string ⟨#[]⟩, .slice none 0 0, .int .i64 0, .slice none 0 0, .int .i64 p] 34)) :=
  ⟨.slice none 0 0, .slice none 0 0, heap_alloc_new w _, World.ownsRow_nil _ _ _ _, ⟨[], World.ownsRow_nil _ _ _ _, rfl⟩, hB⟩
theorem FunAt.cells {B c : Nat} {x : Fun} {w : World} (h : FunAt B c x w) : ∃ vp vb, (∀ i v, (funCells x vp vb)[i]? = some v → w.cell? ⟨c, i, none⟩ = some v) ∧ (∀ i, w.frozen? ⟨c, i, none⟩ = false) ∧ w.ownsRow B 3 1 vp x.2.1.length (ints x.2.1) ∧ BlksVal B x.2.2.2.1 vb w := by
  obtain ⟨vp, vb, h1, h2, h3, h4⟩ := h
  refine ⟨vp, vb, fun i v hv => ?_, fun i => by simp [World.frozen?, h1], h2, h3⟩
  simp only [World.cell?, h1]
  simpa using hv
/-- What stands in memory while a function is read. -/
def MidF (w : World) (a c : Nat) (L : List Tok) (E : Int) (n : Nat) (x : Fun) (l : List Tok) (wk : World) : Prop :=
  Rdr (w.heap.size + 1) a L E n l wk ∧ FunAt (w.heap.size + 1) c x wk ∧ wk.heap[w.heap.size]? = some (.cells #[.string ⟨#[]⟩, .slice none 0 0, .int .i64 0, .slice none 0 0, .int .i64 0] 34 (0, 0)) ∧ Kp w.heap.size a w wk ∧ Tabs wk ∧ 2 ≤ a
theorem MidF.lt {w : World} {a c : Nat} {L : List Tok} {E : Int} {n : Nat} {x : Fun} {l : List Tok} {wk : World} (h : MidF w a c L E n x l wk) : a < w.heap.size ∧ w.heap.size < c ∧ c < wk.heap.size ∧ w.heap.size < wk.heap.size := by
  obtain ⟨h1, h2, h3, h4, h5, h6⟩ := h
  have := h1.suffix.2.2.2
  have := h2.lt
  have hne : a ≠ w.heap.size := by
    intro e
    obtain ⟨v, hv, _⟩ := h1
    rw [e, h3] at hv
    simp at hv
  have := (Array.getElem?_eq_some_iff.1 h3).1
  omega
theorem MidF.kp {w : World} {a c : Nat} {L : List Tok} {E : Int} {n n' : Nat} {x : Fun} {l l' : List Tok} {wk wk' : World} (h : MidF w a c L E n x l wk) (k : Kp wk.heap.size a wk wk') (r : Rdr (w.heap.size + 1) a L E n' l' wk') : MidF w a c L E n' x l' wk' := by
  have hl := h.lt
  obtain ⟨h1, h2, h3, h4, h5, h6⟩ := h
  exact ⟨r, h2.stay (stay_kp k (by omega)) (k.2.2.2.2 _ (by omega) (by omega)), (k.2.2.2.2 _ (by omega) (by omega)).trans h3, h4.trans (k.mono h4.size), h5.kp k h6 (by omega), h6⟩
theorem MidF.step {w : World} {a c : Nat} {L : List Tok} {E : Int} {n : Nat} {x : Fun} {l : List Tok} {wk wk' : World} (h : MidF w a c L E n x l wk) (b : Below wk.heap.size wk wk') : MidF w a c L E n x l wk' :=
  h.kp (Kp.of_belowW b (Nat.le_refl _)) (h.1.step b)
theorem MidF.put {w : World} {a c i : Nat} {L : List Tok} {E : Int} {n : Nat} {x y : Fun} {l : List Tok} {wk : World} {v : Value} (h : MidF w a c L E n x l wk) (hi : FunAt (w.heap.size + 1) c y (wk.setCell ⟨c, i, none⟩ v)) : MidF w a c L E n y l (wk.setCell ⟨c, i, none⟩ v) := by
  have hl := h.lt
  have hf := (Far.refl c wk).set i v
  obtain ⟨h1, h2, h3, h4, h5, h6⟩ := h
  exact ⟨h1.set (by show _ ≤ c; omega) _, hi, (hf.2.2.2.2 _ (by omega)).trans h3, h4.trans (hf.kp (by omega) (by omega) h2.never80), h5.of (by rw [hf.2.2.2.1]; exact Nat.le_refl _) (hf.2.2.2.2 0 (by omega)) (hf.2.2.2.2 1 (by omega)), h6⟩
theorem MidF.cel {w : World} {a c : Nat} {L : List Tok} {E : Int} {n : Nat} {x : Fun} {l : List Tok} {wk : World} (h : MidF w a c L E n x l wk) : (∃ u, wk.cell? ⟨c, 0, none⟩ = some u) ∧ (∃ u, wk.cell? ⟨c, 1, none⟩ = some u) ∧ (∃ u, wk.cell? ⟨c, 2, none⟩ = some u) ∧ ∀ i, wk.frozen? ⟨c, i, none⟩ = false := by
  obtain ⟨vp, vb, h1, h2, _⟩ := h.2.1.cells
  exact ⟨⟨_, h1 0 _ rfl⟩, ⟨_, h1 1 _ rfl⟩, ⟨_, h1 2 _ rfl⟩, h2⟩
end Go.Proofs.YtkkkgennkhdfhaaDoor
