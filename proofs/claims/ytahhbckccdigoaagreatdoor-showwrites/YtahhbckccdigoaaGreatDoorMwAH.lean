/- Functions and programs in memory. -/
import Derived.Test.YtahhbckccdigoaaGreatDoorMwAF
import Derived.Test.YtahhbckccdigoaaGreatDoorMwAG
namespace Go.Proofs.YtahhbckccdigoaaGreatDoor
open Go Go.RowKit
open G (Tok Er Ins Fun peek0 peek1 atOf)
/-- From one world to another all lists of the types 3, 36 and 38 stay. -/
def Stay (B B' : Nat) (w w' : World) : Prop := ∀ (e s : Nat) (v : Value) (n : Nat) (xs : List Value), e = 3 ∨ e = 36 ∨ e = 39 → w.ownsRow B e s v n xs → w'.ownsRow B' e s v n xs
theorem Stay.trans {A B C : Nat} {u v w : World} (h : Stay A B u v) (k : Stay B C v w) : Stay A C u w := fun e s x n xs he ho => k e s x n xs he (h e s x n xs he ho)
theorem stay_below {B : Nat} {w w' : World} (b : Below w.heap.size w w') : Stay B B w w' := fun e s v n xs _ h => own_below b B e s v n xs h
theorem stay_kp {B a : Nat} {w w' : World} (k : Kp w.heap.size a w w') (ha : a < B) : Stay B B w w' := fun e s v n xs _ h => own_kept k ha e s v n xs h
theorem stay_base {B B' : Nat} {w : World} (hB : B' ≤ B) : Stay B B' w w := fun _ _ _ _ _ _ h => own_base h hB
theorem stay_far {q B : Nat} {w w' : World} (hf : Far q w w') (hq : ∀ (e s : Nat) (v : Value) (n : Nat) (xs : List Value), e = 3 ∨ e = 36 ∨ e = 39 → w.ownsRow B e s v n xs → v.ownBlock ≠ some q) : Stay B B w w' := fun e s v n xs he h => hf.own h (hq e s v n xs he h)
theorem far_kind {q B t : Nat} {w w' : World} (hf : Far q w w') {c : Array Value} {fz : Nat × Nat} (hc : w.heap[q]? = some (.cells c t fz)) (ht : t ≠ 3 ∧ t ≠ 36 ∧ t ≠ 39) : Stay B B w w' :=
  stay_far hf fun e s v n xs he h => by
    refine own_ne h hc ?_
    rcases he with rfl | rfl | rfl
    · exact ht.1
    · exact ht.2.1
    · exact ht.2.2
theorem stay_grown {B B' e' s' n : Nat} {w w' : World} {row : Value} {ys : List Value} (hg : w.grownBy w' row.ownBlock) (hr : w.ownsRow B' e' s' row n ys) (he' : e' ≠ 3 ∧ e' ≠ 36 ∧ e' ≠ 39) : Stay B B w w' := fun e s v m xs he h => own_other hg hr (by omega) v m xs h
theorem BlkVal.stay {B B' : Nat} {xs : List Ins} {v : Value} {w w' : World} (h : BlkVal B xs v w) (hs : Stay B B' w w') : BlkVal B' xs v w' := by
  obtain ⟨cs, h1, h2⟩ := h
  exact ⟨cs, hs _ _ _ _ _ (by simp) h1, InsRow.keep (fun v n xs h => hs 3 1 v n xs (by simp) h) _ _ h2⟩
/-- The values of blocks, one behind the other. -/
def BRow (B : Nat) (w : World) : List (List Ins) → List Value → Prop
  | [], vs => vs = []
  | b :: r, vs => ∃ v rest, vs = v :: rest ∧ BlkVal B b v w ∧ BRow B w r rest
theorem BRow.keep {B B' : Nat} {w w' : World} (hk : ∀ xs v, BlkVal B xs v w → BlkVal B' xs v w') : ∀ (l : List (List Ins)) (vs : List Value), BRow B w l vs → BRow B' w' l vs := by
  intro l
  induction l with
  | nil => intro vs h; exact h
  | cons b r ih =>
    rintro vs ⟨v, rest, h1, h2, h3⟩
    exact ⟨v, rest, h1, hk _ _ h2, ih rest h3⟩
theorem BRow.snoc {B : Nat} {w : World} {b : List Ins} {v : Value} (h : BlkVal B b v w) : ∀ (l : List (List Ins)) (vs : List Value), BRow B w l vs → BRow B w (l ++ [b]) (vs ++ [v]) := by
  intro l
  induction l with
  | nil => intro vs hv; cases hv; exact ⟨v, [], rfl, h, rfl⟩
  | cons y r ih =>
    rintro vs ⟨u, rest, rfl, h4, h5⟩
    exact ⟨u, rest ++ [v], rfl, h4, ih rest h5⟩
/-- The value of a list of blocks. -/
def BlksVal (B : Nat) (bl : List (List Ins)) (v : Value) (w : World) : Prop := ∃ vs, w.ownsRow B 36 1 v bl.length vs ∧ BRow B w bl vs
theorem BlksVal.stay {B B' : Nat} {bl : List (List Ins)} {v : Value} {w w' : World} (h : BlksVal B bl v w) (hs : Stay B B' w w') : BlksVal B' bl v w' := by
  obtain ⟨vs, h1, h2⟩ := h
  exact ⟨vs, hs _ _ _ _ _ (by simp) h1, BRow.keep (fun _ _ h => h.stay hs) _ _ h2⟩
def funCells (x : Fun) (vp vb : Value) : List Value := [.string (bs x.1), vp, .int .i64 x.2.2.1, vb, .int .i64 x.2.2.2.2]
/-- The function x stands at block c, its lists at blocks from B on. -/
def FunAt (B c : Nat) (x : Fun) (w : World) : Prop :=
  ∃ vp vb, w.heap[c]? = some (.cells (funCells x vp vb).toArray 34 (0, 0)) ∧ w.ownsRow B 3 1 vp x.2.1.length (ints x.2.1) ∧ BlksVal B x.2.2.2.1 vb w ∧ B ≤ c
def FunVal (B : Nat) (x : Fun) (v : Value) (w : World) : Prop :=
  ∃ vp vb, v = .agg (funCells x vp vb).toArray ∧ w.ownsRow B 3 1 vp x.2.1.length (ints x.2.1) ∧ BlksVal B x.2.2.2.1 vb w
theorem FunAt.stay {B c : Nat} {x : Fun} {w w' : World} (h : FunAt B c x w) (hs : Stay B B w w') (hc : w'.heap[c]? = w.heap[c]?) : FunAt B c x w' := by
  obtain ⟨vp, vb, h1, h2, h3, h4⟩ := h
  exact ⟨vp, vb, hc.trans h1, hs _ _ _ _ _ (by simp) h2, h3.stay hs, h4⟩
theorem FunAt.lt {B c : Nat} {x : Fun} {w : World} (h : FunAt B c x w) : c < w.heap.size ∧ B ≤ c := by
  obtain ⟨vp, vb, h1, h2, h3, h4⟩ := h
  exact ⟨(Array.getElem?_eq_some_iff.1 h1).1, h4⟩
theorem FunAt.put {B c i : Nat} {x y : Fun} {w : World} {v : Value} {vp' vb' : Value → Value → Value} (h : FunAt B c x w) (hy : ∀ vp vb, (funCells x vp vb).toArray.setIfInBounds i v = (funCells y (vp' vp vb) (vb' vp vb)).toArray) (hp : ∀ vp vb, w.ownsRow B 3 1 vp x.2.1.length (ints x.2.1) → w.ownsRow B 3 1 (vp' vp vb) y.2.1.length (ints y.2.1)) (hb : ∀ vp vb, BlksVal B x.2.2.2.1 vb w → BlksVal B y.2.2.2.1 (vb' vp vb) w) : FunAt B c y (w.setCell ⟨c, i, none⟩ v) := by
  obtain ⟨vp, vb, h1, h2, h3, h4⟩ := h
  have hs : Stay B B w (w.setCell ⟨c, i, none⟩ v) := far_kind ((Far.refl c w).set i v) h1 (by decide)
  refine ⟨vp' vp vb, vb' vp vb, ?_, hs _ _ _ _ _ (by simp) (hp vp vb h2), (hb vp vb h3).stay hs, h4⟩
  rw [heap_setCell_same w c i _ 34 _ h1, hy]
theorem FunAt.never80 {B c : Nat} {x : Fun} {w : World} (h : FunAt B c x w) : ∀ (cs : Array Value) (fz : Nat × Nat), w.heap[c]? ≠ some (.cells cs 152 fz) := fun cs fz hc => by
  obtain ⟨vp, vb, h1, _⟩ := h
  rw [h1] at hc
  simp at hc
def fName (x : Fun) (s : List UInt8) : Fun := (s, x.2.1, x.2.2.1, x.2.2.2.1, x.2.2.2.2)
def fParams (x : Fun) (p : List Int) : Fun := (x.1, p, x.2.2.1, x.2.2.2.1, x.2.2.2.2)
def fRet (x : Fun) (t : Int) : Fun := (x.1, x.2.1, t, x.2.2.2.1, x.2.2.2.2)
def fBlock (x : Fun) (b : List Ins) : Fun := (x.1, x.2.1, x.2.2.1, x.2.2.2.1 ++ [b], x.2.2.2.2)
theorem FunAt.name {B c : Nat} {x : Fun} {w : World} (h : FunAt B c x w) (s : List UInt8) : FunAt B c (fName x s) (w.setCell ⟨c, 0, none⟩ (.string (bs s))) :=
  h.put (vp' := fun vp _ => vp) (vb' := fun _ vb => vb) (fun _ _ => rfl) (fun _ _ h => h) (fun _ _ h => h)
theorem FunAt.params {B c : Nat} {x : Fun} {w : World} {p : List Int} {v : Value} (h : FunAt B c x w) (hp : w.ownsRow B 3 1 v p.length (ints p)) : FunAt B c (fParams x p) (w.setCell ⟨c, 1, none⟩ v) :=
  h.put (vp' := fun _ _ => v) (vb' := fun _ vb => vb) (fun _ _ => rfl) (fun _ _ _ => hp) (fun _ _ h => h)
theorem FunAt.ret {B c : Nat} {x : Fun} {w : World} (h : FunAt B c x w) (t : Int) : FunAt B c (fRet x t) (w.setCell ⟨c, 2, none⟩ (.int .i64 t)) :=
  h.put (vp' := fun vp _ => vp) (vb' := fun _ vb => vb) (fun _ _ => rfl) (fun _ _ h => h) (fun _ _ h => h)
theorem FunAt.blocks {B c : Nat} {x : Fun} {w : World} {bl : List (List Ins)} {v : Value} (h : FunAt B c x w) (hp : BlksVal B bl v w) : FunAt B c (x.1, x.2.1, x.2.2.1, bl, x.2.2.2.2) (w.setCell ⟨c, 3, none⟩ v) :=
  h.put (vp' := fun vp _ => vp) (vb' := fun _ _ => v) (fun _ _ => rfl) (fun _ _ h => h) (fun _ _ _ => hp)
theorem FunAt.new {B : Nat} {w : World} (hB : B ≤ w.heap.size) (p : Int) : FunAt B w.heap.size ([], [], 0, [], p) (w.alloc (.cells #[.string ⟨#[]⟩, .slice none 0 0, .int .i64 0, .slice none 0 0, .int .i64 p] 34)) :=
  ⟨.slice none 0 0, .slice none 0 0, heap_alloc_new w _, World.ownsRow_nil _ _ _ _, ⟨[], World.ownsRow_nil _ _ _ _, rfl⟩, hB⟩
theorem FunAt.cells {B c : Nat} {x : Fun} {w : World} (h : FunAt B c x w) : ∃ vp vb, (∀ i v, (funCells x vp vb)[i]? = some v → w.cell? ⟨c, i, none⟩ = some v) ∧ (∀ i, w.frozen? ⟨c, i, none⟩ = false) ∧ w.ownsRow B 3 1 vp x.2.1.length (ints x.2.1) ∧ BlksVal B x.2.2.2.1 vb w := by
  obtain ⟨vp, vb, h1, h2, h3, h4⟩ := h
  refine ⟨vp, vb, fun i v hv => ?_, fun i => by simp [World.frozen?, h1], h2, h3⟩
  simp only [World.cell?, h1]
  simpa using hv
/-- What stands in memory while a function is read. -/
def MidF (w : World) (a c : Nat) (L : List Tok) (E : Int) (n : Nat) (x : Fun) (l : List Tok) (wk : World) : Prop :=
  Rdr (w.heap.size + 1) a L E n l wk ∧ FunAt (w.heap.size + 1) c x wk ∧ wk.heap[w.heap.size]? = some (.cells #[.string ⟨#[]⟩, .slice none 0 0, .int .i64 0, .slice none 0 0, .int .i64 0] 34 (0, 0)) ∧ Kp w.heap.size a w wk ∧ Tabs wk ∧ 2 ≤ a
theorem MidF.lt {w : World} {a c : Nat} {L : List Tok} {E : Int} {n : Nat} {x : Fun} {l : List Tok} {wk : World} (h : MidF w a c L E n x l wk) : a < w.heap.size ∧ w.heap.size < c ∧ c < wk.heap.size ∧ w.heap.size < wk.heap.size := by
  obtain ⟨h1, h2, h3, h4, h5, h6⟩ := h
  have := h1.suffix.2.2.2
  have := h2.lt
  have hne : a ≠ w.heap.size := by
    intro e
    obtain ⟨v, hv, _⟩ := h1
    rw [e, h3] at hv
    simp at hv
  have := (Array.getElem?_eq_some_iff.1 h3).1
  omega
theorem MidF.kp {w : World} {a c : Nat} {L : List Tok} {E : Int} {n n' : Nat} {x : Fun} {l l' : List Tok} {wk wk' : World} (h : MidF w a c L E n x l wk) (k : Kp wk.heap.size a wk wk') (r : Rdr (w.heap.size + 1) a L E n' l' wk') : MidF w a c L E n' x l' wk' := by
  have hl := h.lt
  obtain ⟨h1, h2, h3, h4, h5, h6⟩ := h
  exact ⟨r, h2.stay (stay_kp k (by omega)) (k.2.2.2.2 _ (by omega) (by omega)), (k.2.2.2.2 _ (by omega) (by omega)).trans h3, h4.trans (k.mono h4.size), h5.kp k h6 (by omega), h6⟩
theorem MidF.step {w : World} {a c : Nat} {L : List Tok} {E : Int} {n : Nat} {x : Fun} {l : List Tok} {wk wk' : World} (h : MidF w a c L E n x l wk) (b : Below wk.heap.size wk wk') : MidF w a c L E n x l wk' :=
  h.kp (Kp.of_belowW b (Nat.le_refl _)) (h.1.step b)
theorem MidF.put {w : World} {a c i : Nat} {L : List Tok} {E : Int} {n : Nat} {x y : Fun} {l : List Tok} {wk : World} {v : Value} (h : MidF w a c L E n x l wk) (hi : FunAt (w.heap.size + 1) c y (wk.setCell ⟨c, i, none⟩ v)) : MidF w a c L E n y l (wk.setCell ⟨c, i, none⟩ v) := by
  have hl := h.lt
  have hf := (Far.refl c wk).set i v
  obtain ⟨h1, h2, h3, h4, h5, h6⟩ := h
  exact ⟨h1.set (by show _ ≤ c; omega) _, hi, (hf.2.2.2.2 _ (by omega)).trans h3, h4.trans (hf.kp (by omega) (by omega) h2.never80), h5.of (by rw [hf.2.2.2.1]; exact Nat.le_refl _) (hf.2.2.2.2 0 (by omega)) (hf.2.2.2.2 1 (by omega)), h6⟩
end Go.Proofs.YtahhbckccdigoaaGreatDoor
namespace Go.Proofs.YtahhbckccdigoaaGreatDoor
open Go Go.RowKit
open G (Tok Er Ins Fun peek0 peek1 atOf)
abbrev blkG (E : Int) (f n : Nat) (acc : List (List Ins)) : G.Rd (List (List Ins) × Nat) := G.blkW numF idxF namF shpF tksF fndF mksF prtF E f n acc
abbrev funG (E : Int) (n : Nat) : G.Rd (Fun × Nat) := G.function numF idxF namF shpF tksF fndF mksF prtF E n
theorem blk_stop {E : Int} {f n : Nat} {acc : List (List Ins)} {l : List Tok} (h : peek0 l = [125]) : blkG E (f + 1) n acc l = .ok ((acc, n), l) := by
  unfold blkG G.blkW; rw [if_pos h]
theorem blk_bad {E : Int} {f n : Nat} {acc : List (List Ins)} {l : List Tok} {er : Er} (h : ¬ peek0 l = [125]) (hb : blockG E acc.length n l = .error er) : blkG E (f + 1) n acc l = .error er := by
  unfold blkG G.blkW; rw [if_neg h]; show G.andThen (blockG E acc.length n l) _ = _; rw [hb]; rfl
theorem blk_go {E : Int} {f n n' : Nat} {acc : List (List Ins)} {b : List Ins} {l l' : List Tok} (h : ¬ peek0 l = [125]) (hb : blockG E acc.length n l = .ok ((b, n'), l')) : blkG E (f + 1) n acc l = blkG E f n' (acc ++ [b]) l' := by
  conv => lhs; unfold blkG G.blkW
  rw [if_neg h]; show G.andThen (blockG E acc.length n l) _ = _; rw [hb]; rfl
theorem ins_len {E : Int} : ∀ (f n : Nat) (acc : List Ins) (l : List Tok) (v : List Ins × Nat) (r : List Tok), insG E f n acc l = .ok (v, r) → r.length ≤ l.length := by
  intro f
  induction f with
  | zero => intro n acc l v r h; cases h; exact Nat.le_refl _
  | succ f ih =>
    intro n acc l v r h
    by_cases hc : peek0 l = [125] ∨ peek1 l = [58]
    · rw [ins_stop hc] at h; cases h; exact Nat.le_refl _
    · by_cases hn : 4096 ≤ n
      · rw [ins_many hc hn] at h; cases h
      · cases hi : instrP E l with
        | error er => rw [ins_bad hc (by omega) hi] at h; cases h
        | ok p =>
          obtain ⟨x, l1⟩ := p
          rw [ins_go hc (by omega) hi] at h
          have := ih _ _ _ _ _ h
          have := instr_less hi
          omega
theorem block_less {E : Int} {k n n' : Nat} {b : List Ins} {l l' : List Tok} (h : blockG E k n l = .ok ((b, n'), l')) : l'.length < l.length := by
  obtain ⟨u, q, h1, h2⟩ := G.then_ok h
  obtain ⟨u2, q2, h3, h4⟩ := G.then_ok h2
  obtain ⟨g1, g2, _⟩ := G.head_ok h1
  obtain ⟨g3, g4, _⟩ := G.want_ok (by simp) h3
  have := tail_bulk g1
  have := tail_bulk g3
  have := ins_len _ _ _ _ _ _ h4
  rw [g4, g2] at *
  omega
def F9 (E at' : Int) (s : List UInt8) (p : List Int) (t : Int) (b : List (List Ins) × Nat) : G.Rd (Fun × Nat) := fun r => G.andThen (G.want E [125] r) fun _ => G.done ((s, p, t, b.1, at'), b.2)
def F8 (E at' : Int) (n : Nat) (s : List UInt8) (p : List Int) (t : Int) : G.Rd (Fun × Nat) := fun r => G.andThen (blkG E (r.length + 1) n [] r) fun b => F9 E at' s p t b
def F7 (E at' : Int) (n : Nat) (s : List UInt8) (p : List Int) (t : Int) : G.Rd (Fun × Nat) := fun r => G.andThen (G.want E [123] r) fun _ => F8 E at' n s p t
def F6 (E at' : Int) (n : Nat) (s : List UInt8) (p : List Int) : G.Rd (Fun × Nat) := fun r => G.andThen (G.answer E r) fun t => F7 E at' n s p t
def F5 (E at' : Int) (n : Nat) (s : List UInt8) (p : List Int) : G.Rd (Fun × Nat) := fun r => G.andThen (G.want E [41] r) fun _ => F6 E at' n s p
def F4 (E at' : Int) (n : Nat) (s : List UInt8) : G.Rd (Fun × Nat) := fun r => G.andThen (G.params E r) fun p => F5 E at' n s p
def F3 (E at' : Int) (n : Nat) (s : List UInt8) : G.Rd (Fun × Nat) := fun r => G.andThen (G.want E [40] r) fun _ => F4 E at' n s
def F2 (E at' : Int) (n : Nat) : G.Rd (Fun × Nat) := fun r => G.andThen (G.name namF E r) fun s => F3 E at' n s
def F1 (E at' : Int) (n : Nat) : G.Rd (Fun × Nat) := fun r => G.andThen (G.want E [102, 117, 110, 99] r) fun _ => F2 E at' n
theorem then_go {α β : Type} {x : Except Er (α × List Tok)} {f : α → G.Rd β} {v : α} {r : List Tok} (h : x = .ok (v, r)) : G.andThen x f = f v r := by rw [h]; rfl
theorem stay2_blk {B B' : Nat} {w w' : World} (hs : ∀ (e s : Nat) (v : Value) (n : Nat) (xs : List Value), e = 3 ∨ e = 39 → w.ownsRow B e s v n xs → w'.ownsRow B' e s v n xs) : ∀ xs v, BlkVal B xs v w → BlkVal B' xs v w' := by
  rintro xs v ⟨cs, h1, h2⟩
  exact ⟨cs, hs _ _ _ _ _ (by simp) h1, InsRow.keep (fun v n xs h => hs 3 1 v n xs (by simp) h) _ _ h2⟩
theorem fun_append {B c gg cap : Nat} {x : Fun} {b : List Ins} {v va vp : Value} {vs : List Value} {u w3 : World} (hc : u.heap[c]? = some (.cells (funCells x vp va).toArray 34 (0, 0))) (hp : u.ownsRow B 3 1 vp x.2.1.length (ints x.2.1)) (oB : u.ownsRow B 36 1 va x.2.2.2.1.length vs) (hR : BRow B u x.2.2.2.1 vs) (hb : BlkVal B b v u) (hBc : B ≤ c)
    (hown : w3.ownsRow B 36 1 (.slice (some ⟨gg, 0, none⟩) (x.2.2.2.1.length + 1) cap) (x.2.2.2.1.length + 1) (vs ++ [v])) (hg : u.grownBy w3 va.ownBlock) : FunAt B c (fBlock x b) (w3.setCell ⟨c, 3, none⟩ (.slice (some ⟨gg, 0, none⟩) (x.2.2.2.1.length + 1) cap)) := by
  have s1 : ∀ (e s : Nat) (v : Value) (n : Nat) (xs : List Value), e = 3 ∨ e = 39 → u.ownsRow B e s v n xs → w3.ownsRow B e s v n xs := fun e s v n xs he h => own_other hg oB (by rcases he with rfl | rfl <;> decide) v n xs h
  have hc3 : w3.heap[c]? = some (.cells (funCells x vp va).toArray 34 (0, 0)) := (hg.block c (Array.getElem?_eq_some_iff.1 hc).1 (fun e => own_ne oB hc (by decide) e.symm)).trans hc
  have s2 : Stay B B w3 (w3.setCell ⟨c, 3, none⟩ (.slice (some ⟨gg, 0, none⟩) (x.2.2.2.1.length + 1) cap)) := far_kind ((Far.refl c w3).set 3 _) hc3 (by decide)
  refine ⟨vp, _, (heap_setCell_same w3 c 3 _ 34 _ hc3).trans rfl, s2 _ _ _ _ _ (by simp) (s1 _ _ _ _ _ (by simp) hp), ?_, hBc⟩
  refine BlksVal.stay ⟨vs ++ [v], ?_, BRow.snoc (stay2_blk s1 _ _ hb) _ _ (BRow.keep (stay2_blk s1) _ _ hR)⟩ s2
  show w3.ownsRow B 36 1 _ (x.2.2.2.1 ++ [b]).length _
  rw [List.length_append]; exact hown
theorem Tryz.info36 : (Tryz.prog.info? 36).map (fun i => (i.zero, i.size, i.bytes)) = some (some (.slice none 0 0), 1, 24) := by kernel_rfl
theorem one_slice {ao : Option Addr} {n c : Nat} : ∀ u ∈ [Value.slice ao n c], u.oneCell' = true := by
  intro u hu
  simp only [List.mem_singleton] at hu
  subst hu; rfl
def RES5 (g : Nat) (w : World) : Prop := w.cell? ⟨g, 0, none⟩ = some (.string ⟨#[]⟩) ∧ w.cell? ⟨g, 1, none⟩ = some (.slice none 0 0) ∧ w.cell? ⟨g, 2, none⟩ = some (.int .i64 0) ∧ w.cell? ⟨g, 3, none⟩ = some (.slice none 0 0) ∧ w.cell? ⟨g, 4, none⟩ = some (.int .i64 0) ∧
  w.frozen? ⟨g, 0, none⟩ = false ∧ w.frozen? ⟨g, 1, none⟩ = false ∧ w.frozen? ⟨g, 2, none⟩ = false ∧ w.frozen? ⟨g, 3, none⟩ = false ∧ w.frozen? ⟨g, 4, none⟩ = false
theorem res5 {g : Nat} {w : World} (h : w.heap[g]? = some (.cells #[.string ⟨#[]⟩, .slice none 0 0, .int .i64 0, .slice none 0 0, .int .i64 0] 34 (0, 0))) : RES5 g w := by
  unfold RES5
  simp [World.cell?, World.frozen?, h]
end Go.Proofs.YtahhbckccdigoaaGreatDoor
namespace Go.Proofs.YtahhbckccdigoaaGreatDoor
open Go Go.RowKit
open G (Tok Er Ins Fun peek0 peek1 atOf)
/-- The cells of functions, one behind the other. -/
def FRow (B : Nat) (w : World) : List Fun → List Value → Prop
  | [], cs => cs = []
  | x :: r, cs => ∃ vp vb rest, cs = funCells x vp vb ++ rest ∧ w.ownsRow B 3 1 vp x.2.1.length (ints x.2.1) ∧ BlksVal B x.2.2.2.1 vb w ∧ FRow B w r rest
theorem FRow.stay {B B' : Nat} {w w' : World} (hs : Stay B B' w w') : ∀ (l : List Fun) (cs : List Value), FRow B w l cs → FRow B' w' l cs := by
  intro l
  induction l with
  | nil => intro cs h; exact h
  | cons x r ih =>
    rintro cs ⟨vp, vb, rest, h1, h2, h3, h4⟩
    exact ⟨vp, vb, rest, h1, hs _ _ _ _ _ (by simp) h2, h3.stay hs, ih rest h4⟩
theorem FRow.snoc {B : Nat} {w : World} {x : Fun} {vp vb : Value} (h1 : w.ownsRow B 3 1 vp x.2.1.length (ints x.2.1)) (h2 : BlksVal B x.2.2.2.1 vb w) : ∀ (l : List Fun) (cs : List Value), FRow B w l cs → FRow B w (l ++ [x]) (cs ++ funCells x vp vb) := by
  intro l
  induction l with
  | nil => intro cs h; cases h; exact ⟨vp, vb, [], by simp, h1, h2, rfl⟩
  | cons y r ih =>
    rintro cs ⟨ua, ut, rest, rfl, h4, h5, h6⟩
    exact ⟨ua, ut, rest ++ funCells x vp vb, by simp, h4, h5, ih rest h6⟩
/-- The value of a list of functions. -/
def ProgVal (B : Nat) (xs : List Fun) (v : Value) (w : World) : Prop := ∃ cs, w.ownsRow B 34 5 v xs.length cs ∧ FRow B w xs cs
abbrev fwG (E : Int) (f n : Nat) (acc : List Fun) : G.Rd (List Fun × Nat) := G.funW numF idxF namF shpF tksF fndF mksF prtF E f n acc
abbrev progG (E : Int) : G.Rd (List Fun × Nat) := G.program numF idxF namF shpF tksF fndF mksF prtF E
theorem fw_stop {E : Int} {f n : Nat} {acc : List Fun} : fwG E (f + 1) n acc [] = .ok ((acc, n), []) := by
  unfold fwG G.funW; rw [if_pos rfl]
theorem fw_many {E : Int} {f n : Nat} {acc : List Fun} {l : List Tok} (h : l ≠ []) (hn : 32 ≤ acc.length) : fwG E (f + 1) n acc l = .error (6, atOf E l) := by
  unfold fwG G.funW; rw [if_neg h, if_pos hn]
theorem fw_bad {E : Int} {f n : Nat} {acc : List Fun} {l : List Tok} {er : Er} (h : l ≠ []) (hn : acc.length < 32) (hi : funG E n l = .error er) : fwG E (f + 1) n acc l = .error er := by
  unfold fwG G.funW; rw [if_neg h, if_neg (by omega)]; show G.andThen (funG E n l) _ = _; rw [hi]; rfl
theorem fw_go {E : Int} {f n n' : Nat} {acc : List Fun} {l l' : List Tok} {x : Fun} (h : l ≠ []) (hn : acc.length < 32) (hi : funG E n l = .ok ((x, n'), l')) : fwG E (f + 1) n acc l = fwG E f n' (acc ++ [x]) l' := by
  conv => lhs; unfold fwG G.funW
  rw [if_neg h, if_neg (by omega)]; show G.andThen (funG E n l) _ = _; rw [hi]; rfl
theorem Tryz.info34 : (Tryz.prog.info? 34).map (fun i => (i.zero, i.size, i.bytes)) = some (some (.agg #[.string ⟨#[]⟩, .slice none 0 0, .int .i64 0, .slice none 0 0, .int .i64 0]), 5, 80) := by kernel_rfl
theorem five_cell {w : World} {x : Fun} {vp vb : Value} : ∀ (j : Nat) (u : Value), (funCells x vp vb)[j]? = some u → (w.alloc (.cells (funCells x vp vb).toArray 34)).cell? ((⟨w.heap.size, 0, none⟩ : Addr).add j) = some u :=
  World.news_of_block (cs := (funCells x vp vb).toArray) (heap_alloc_new w _)
theorem five_one {x : Fun} {ao ap : Option Addr} {m n c d : Nat} : ∀ u ∈ funCells x (.slice ao m c) (.slice ap n d), u.oneCell' = true := by
  intro u hu
  simp only [funCells, List.mem_cons, List.not_mem_nil, or_false] at hu
  rcases hu with rfl | rfl | rfl | rfl | rfl <;> rfl
theorem blk_len {E : Int} : ∀ (f n : Nat) (acc : List (List Ins)) (l : List Tok) (v : List (List Ins) × Nat) (r : List Tok), blkG E f n acc l = .ok (v, r) → r.length ≤ l.length := by
  intro f
  induction f with
  | zero => intro n acc l v r h; cases h; exact Nat.le_refl _
  | succ f ih =>
    intro n acc l v r h
    by_cases hc : peek0 l = [125]
    · rw [blk_stop hc] at h; cases h; exact Nat.le_refl _
    · cases hi : blockG E acc.length n l with
      | error er => rw [blk_bad hc hi] at h; cases h
      | ok q =>
        obtain ⟨⟨b, n'⟩, l1⟩ := q
        rw [blk_go hc hi] at h
        have := ih _ _ _ _ _ h
        have := block_less hi
        omega
theorem fun_less {E : Int} {n n' : Nat} {l l' : List Tok} {x : Fun} (h : funG E n l = .ok ((x, n'), l')) : l'.length < l.length := by
  obtain ⟨u1, l1, h1, h⟩ := G.then_ok h
  obtain ⟨s, l2, h2, h⟩ := G.then_ok h
  obtain ⟨u3, l3, h3, h⟩ := G.then_ok h
  obtain ⟨p, l4, h4, h⟩ := G.then_ok h
  obtain ⟨u5, l5, h5, h⟩ := G.then_ok h
  obtain ⟨t, l6, h6, h⟩ := G.then_ok h
  obtain ⟨u7, l7, h7, h⟩ := G.then_ok h
  obtain ⟨b, l8, h8, h⟩ := G.then_ok h
  obtain ⟨u9, l9, h9, h⟩ := G.then_ok h
  cases h
  have s1 := (G.want_sim (d := 0) (m := []) (E' := E) (by simp) l u1 l1 h1).1.length_le
  have s2 := (G.name_sim (d := 0) (m := []) (E' := E) nam_nil l1 s l2 h2).1.length_le
  have s3 := (G.want_sim (d := 0) (m := []) (E' := E) (by simp) l2 u3 l3 h3).1.length_le
  have s4 := (G.params_sim (d := 0) (m := []) (E' := E) l3 p l4 h4).1.length_le
  have s5 := (G.want_sim (d := 0) (m := []) (E' := E) (by simp) l4 u5 l5 h5).1.length_le
  have s6 := (G.answer_sim (d := 0) (m := []) (E' := E) l5 t l6 h6).1.length_le
  have s7 := (G.want_sim (d := 0) (m := []) (E' := E) (by simp) l6 u7 l7 h7).1.length_le
  obtain ⟨g1, g2, _⟩ := G.want_ok (by simp) h9
  have s8 := blk_len _ _ _ _ _ _ h8
  have := tail_bulk g1
  rw [g2] at *
  omega
/-- What stands in memory while a program is read. -/
def MidP (w : World) (a c : Nat) (L : List Tok) (E : Int) (n : Nat) (xs : List Fun) (l : List Tok) (wk : World) : Prop :=
  Rdr (w.heap.size + 1) a L E n l wk ∧ (∃ v, wk.heap[c]? = some (.cells #[v] 24 (0, 0)) ∧ ProgVal (w.heap.size + 1) xs v wk) ∧ wk.heap[w.heap.size]? = some (.cells #[.slice none 0 0] 24 (0, 0)) ∧ Kp w.heap.size a w wk ∧ Tabs wk ∧ 2 ≤ a ∧ w.heap.size < c
theorem MidP.lt {w : World} {a c : Nat} {L : List Tok} {E : Int} {n : Nat} {xs : List Fun} {l : List Tok} {wk : World} (h : MidP w a c L E n xs l wk) : a < w.heap.size ∧ w.heap.size < c ∧ c < wk.heap.size ∧ w.heap.size < wk.heap.size := by
  obtain ⟨h1, ⟨v, h2, _⟩, h3, h4, h5, h6, h7⟩ := h
  have := h1.suffix.2.2.2
  have := (Array.getElem?_eq_some_iff.1 h2).1
  have hne : a ≠ w.heap.size := by
    intro e
    obtain ⟨v, hv, _⟩ := h1
    rw [e, h3] at hv
    simp at hv
  have := (Array.getElem?_eq_some_iff.1 h3).1
  omega
theorem MidP.kp {w : World} {a c : Nat} {L : List Tok} {E : Int} {n n' : Nat} {xs : List Fun} {l l' : List Tok} {wk wk' : World} (h : MidP w a c L E n xs l wk) (k : Kp wk.heap.size a wk wk') (r : Rdr (w.heap.size + 1) a L E n' l' wk') : MidP w a c L E n' xs l' wk' := by
  have hl := h.lt
  obtain ⟨h1, ⟨v, h2, cs, h8, h9⟩, h3, h4, h5, h6, h7⟩ := h
  exact ⟨r, ⟨v, (k.2.2.2.2 _ (by omega) (by omega)).trans h2, cs, own_kept k (by omega) _ _ _ _ _ h8, FRow.stay (stay_kp k (by omega)) _ _ h9⟩, (k.2.2.2.2 _ (by omega) (by omega)).trans h3, h4.trans (k.mono h4.size), h5.kp k h6 (by omega), h6, h7⟩
theorem MidP.step {w : World} {a c : Nat} {L : List Tok} {E : Int} {n : Nat} {xs : List Fun} {l : List Tok} {wk wk' : World} (h : MidP w a c L E n xs l wk) (b : Below wk.heap.size wk wk') : MidP w a c L E n xs l wk' :=
  h.kp (Kp.of_belowW b (Nat.le_refl _)) (h.1.step b)
theorem Rdr.words {B a : Nat} {L : List Tok} {E : Int} {n : Nat} {l : List Tok} {w : World} (h : Rdr B a L E n l w) : ∃ ao cap, w.cell? ⟨a, 0, none⟩ = some (.slice ao L.length cap) ∧ w.cell? ⟨a, 1, none⟩ = some (.int .i64 ((L.length - l.length : Nat) : Int)) := by
  obtain ⟨v, h1, h2, _⟩ := h
  obtain ⟨ao, cap, rfl⟩ := own_len h2
  exact ⟨ao, cap, by simp [World.cell?, h1], by simp [World.cell?, h1]⟩
end Go.Proofs.YtahhbckccdigoaaGreatDoor
namespace Go.Proofs.YtahhbckccdigoaaGreatDoor
open Go Go.RowKit
open G (Tok Er Ins Fun peek0 peek1 atOf)
theorem eq_word (s t : List UInt8) : ((bs s).toList == t) = decide (s = t) := by
  rw [ByteArray.toList_eq, bs_data]
  by_cases h : s = t
  · subst h; simp
  · simp [h]
/-- What a word is to a question after its first sign. -/
theorem first_of (c : UInt8) (s : List UInt8) : (s = [] ∧ ((bs s).toList == []) = true) ∨ (∃ x r, s = x :: r ∧ ((bs s).toList == []) = false ∧ 0 < (bs s).size ∧ ((x = c ∧ ∀ h : 0 < (bs s).size, ((bs s)[0].toNat : Int) = (c.toNat : Int)) ∨ (x ≠ c ∧ ∀ h : 0 < (bs s).size, (((bs s)[0].toNat : Int) == (c.toNat : Int)) = false))) := by
  cases s with
  | nil => exact .inl ⟨rfl, (eq_word [] []).trans (by simp)⟩
  | cons x r =>
    refine .inr ⟨x, r, rfl, (eq_word (x :: r) []).trans (by simp), by rw [bs_size]; simp, ?_⟩
    by_cases hx : x = c
    · exact .inl ⟨hx, fun _ => by subst hx; rfl⟩
    · refine .inr ⟨hx, fun _ => ?_⟩
      have : (bs (x :: r))[0] = x := rfl
      rw [this]
      have h2 : x.toNat ≠ c.toNat := fun e => hx (UInt8.toNat_inj.1 e)
      simpa using fun e : (x.toNat : Int) = c.toNat => h2 (by omega)
set_option maxRecDepth 20000 in
theorem rtaken {a : Nat} {L : List Tok} {E : Int} {n : Nat} {l : List Tok} (w : World) (h : RR a L E n l w) :
    Calls Tryz.prog 130 #[.pointer (some ⟨a, 0, none⟩)] w fun e w' => e = .returned (.bool (G.taken l)) ∧ Below w.heap.size w w' := by
  have H := hide h
  have HN := hide (ne_text (peek1 l) [61])
  have hz : (bs (peek0 l)).size ≤ 65536 := by rw [bs_size]; exact h.short.1
  clear h
  rcases first_of 37 (peek0 l) with ⟨hs, e0⟩ | ⟨x, r, hs, e0, hp, ⟨hx, e1⟩ | ⟨hx, e1⟩⟩
  · have HT : Hid (G.taken l = false) := hide (by unfold G.taken; rw [hs]; rfl)
    clear hs
    go_enter Tryz.func130, Tryz.ntmps130
    go_wp2_with fail
    refine (rpeek0 w H.out rfl).mono ?_; rintro e w1 ⟨rfl, b1⟩
    generalize bs (peek0 l) = C at *
    go_wp2_with fail
    go_ret
    exact ⟨ret_bool HT.out.symm, b1⟩
  · have HT : Hid (G.taken l = decide (peek1 l ≠ [61])) := hide (taken_yes (by rw [hs, hx]; simp [begins]))
    replace e1 : ((bs (peek0 l))[0].toNat : Int) = 37 := e1 hp
    clear hs hx
    go_enter Tryz.func130, Tryz.ntmps130
    go_wp2_with fail
    refine (rpeek0 w H.out rfl).mono ?_; rintro e w1 ⟨rfl, b1⟩
    generalize bs (peek0 l) = C at *
    go_wp2_with fail
    refine (rpeek1 w1 (H.out.below b1) rfl).mono ?_; rintro e w2 ⟨rfl, b2⟩
    go_wp2_with fail
    go_ret
    exact ⟨ret_bool (HN.out.trans HT.out.symm), below_step b1 b2⟩
  · have HT : Hid (G.taken l = false) := hide (taken_no (by rw [hs]; simp [begins, hx]))
    replace e1 : (((bs (peek0 l))[0].toNat : Int) == 37) = false := e1 hp
    clear hs hx
    go_enter Tryz.func130, Tryz.ntmps130
    go_wp2_with fail
    refine (rpeek0 w H.out rfl).mono ?_; rintro e w1 ⟨rfl, b1⟩
    generalize bs (peek0 l) = C at *
    go_wp2_with fail
    go_ret
    exact ⟨ret_bool HT.out.symm, b1⟩
set_option maxRecDepth 20000 in
theorem rpaired {a : Nat} {L : List Tok} {E : Int} {n : Nat} {l : List Tok} (w : World) (h : RR a L E n l w) :
    Calls Tryz.prog 144 #[.pointer (some ⟨a, 0, none⟩)] w fun e w' => e = .returned (.bool (G.paired l)) ∧ Below w.heap.size w w' := by
  have H := hide h
  have HN := hide (ne_text (peek1 l) [58])
  have hz : (bs (peek0 l)).size ≤ 65536 := by rw [bs_size]; exact h.short.1
  clear h
  rcases first_of 98 (peek0 l) with ⟨hs, e0⟩ | ⟨x, r, hs, e0, hp, ⟨hx, e1⟩ | ⟨hx, e1⟩⟩
  · have HT : Hid (G.paired l = false) := hide (paired_no (by rw [hs]; rfl))
    clear hs
    go_enter Tryz.func144, Tryz.ntmps144
    go_wp2_with fail
    refine (rpeek0 w H.out rfl).mono ?_; rintro e w1 ⟨rfl, b1⟩
    generalize bs (peek0 l) = C at *
    go_wp2_with fail
    go_ret
    exact ⟨ret_bool HT.out.symm, b1⟩
  · replace e1 : ((bs (peek0 l))[0].toNat : Int) = 98 := e1 hp
    by_cases hb : peek0 l = [98, 114]
    · have e2 : ((bs (peek0 l)).toList == [98, 114]) = true := (eq_word (peek0 l) [98, 114]).trans (decide_eq_true hb)
      have HT : Hid (G.paired l = false) := hide (by unfold G.paired; rw [hb]; rfl)
      clear hs hx hb
      go_enter Tryz.func144, Tryz.ntmps144
      go_wp2_with fail
      refine (rpeek0 w H.out rfl).mono ?_; rintro e w1 ⟨rfl, b1⟩
      generalize bs (peek0 l) = C at *
      go_wp2_with fail
      go_ret
      exact ⟨ret_bool HT.out.symm, b1⟩
    · have e2 : ((bs (peek0 l)).toList == [98, 114]) = false := (eq_word (peek0 l) [98, 114]).trans (decide_eq_false hb)
      have HT : Hid (G.paired l = decide (peek1 l ≠ [58])) := hide (by
        unfold G.paired
        have h1 : ((peek0 l).head? == some 98) = true := by rw [hs, hx]; rfl
        have h2 : (peek0 l != [98, 114]) = true := by simpa using hb
        rw [h1, h2]
        by_cases h : peek1 l = [58]
        · rw [h]; rfl
        · simp [h])
      clear hs hx hb
      go_enter Tryz.func144, Tryz.ntmps144
      go_wp2_with fail
      refine (rpeek0 w H.out rfl).mono ?_; rintro e w1 ⟨rfl, b1⟩
      generalize bs (peek0 l) = C at *
      go_wp2_with fail
      refine (rpeek1 w1 (H.out.below b1) rfl).mono ?_; rintro e w2 ⟨rfl, b2⟩
      go_wp2_with fail
      go_ret
      exact ⟨ret_bool (HN.out.trans HT.out.symm), below_step b1 b2⟩
  · have HT : Hid (G.paired l = false) := hide (paired_no (by rw [hs]; simp [begins, hx]))
    replace e1 : (((bs (peek0 l))[0].toNat : Int) == 98) = false := e1 hp
    clear hs hx
    go_enter Tryz.func144, Tryz.ntmps144
    go_wp2_with fail
    refine (rpeek0 w H.out rfl).mono ?_; rintro e w1 ⟨rfl, b1⟩
    generalize bs (peek0 l) = C at *
    go_wp2_with fail
    go_ret
    exact ⟨ret_bool HT.out.symm, b1⟩
end Go.Proofs.YtahhbckccdigoaaGreatDoor
namespace Go.Proofs.YtahhbckccdigoaaGreatDoor
open Go Go.RowKit
open G (Tok Er Ins Fun peek0 peek1 atOf)
/-- The instruction stands at c, the place of the answer at g. -/
def MidR (w : World) (a c g : Nat) (L : List Tok) (E : Int) (n : Nat) (x : Ins) (l : List Tok) (wk : World) : Prop :=
  RR a L E n l wk ∧ InsAt w.heap.size c x wk ∧ wk.heap[g]? = some (.cells #[.int .i64 0, .int .i64 0, .int .i64 0, .int .i64 0, .slice none 0 0, .slice none 0 0, .string ⟨#[]⟩, .int .i64 0] 39 (0, 0)) ∧ Kr a w wk ∧ a < w.heap.size ∧ w.heap.size ≤ g ∧ g ≠ c
section
variable {w : World} {a c g : Nat} {L : List Tok} {E : Int} {n : Nat} {x : Ins} {l : List Tok} {wk : World}
theorem MidR.lt (h : MidR w a c g L E n x l wk) : a < w.heap.size ∧ w.heap.size ≤ g ∧ w.heap.size ≤ c ∧ c < wk.heap.size ∧ g < wk.heap.size ∧ g ≠ c ∧ w.heap.size ≤ wk.heap.size := by
  obtain ⟨h1, h2, h3, h4, h5, h6, h7⟩ := h
  exact ⟨h5, h6, h2.lt.2, h2.lt.1, (Array.getElem?_eq_some_iff.1 h3).1, h7, h4.size⟩
theorem MidR.below {wk' : World} (h : MidR w a c g L E n x l wk) (b : Below wk.heap.size wk wk') : MidR w a c g L E n x l wk' := by
  have hl := h.lt
  obtain ⟨h1, h2, h3, h4, h5, h6, h7⟩ := h
  exact ⟨h1.below b, h2.step b, (b.block g (by omega)).trans h3, h4.step b, h5, h6, h7⟩
theorem MidR.ate {l' : List Tok} {wk' : World} (h : MidR w a c g L E n x l wk) (b : Ate a L E n l' wk wk') : MidR w a c g L E n x l' wk' := by
  have hl := h.lt
  obtain ⟨h1, h2, h3, h4, h5, h6, h7⟩ := h
  exact ⟨b.1, h2.keep fun k k1 k2 => b.2.2.2.2.2 k k2 (by omega), (b.2.2.2.2.2 g (by omega) (by omega)).trans h3, h4.trans b.2, h5, h6, h7⟩
theorem RR.set {p : Nat} (h : RR a L E n l wk) {cs : Array Value} {t : TypeId} {fz : Nat × Nat} (hp : wk.heap[p]? = some (.cells cs t fz)) (ht : t ≠ 96) (hpa : p ≠ a) (i : Nat) (v : Value) : RR a L E n l (wk.setCell ⟨p, i, none⟩ v) := by
  obtain ⟨u, h1, h2, h3⟩ := h
  exact ⟨u, (Below.heap_setCell _ _ _ _ (fun e => hpa e.symm)).trans h1, own_setCell h2 (own_ne h2 hp ht) _, h3⟩
theorem RR.grown {w3 : World} {row : Value} {B m : Nat} {ys : List Value} {e' s' : Nat} (h : RR a L E n l wk) (hg : wk.grownBy w3 row.ownBlock) (hr : wk.ownsRow B e' s' row m ys) (he : 96 ≠ e') (hB : a < B) : RR a L E n l w3 := by
  have hlt := h.lt
  obtain ⟨u, h1, h2, h3⟩ := h
  exact ⟨u, (hg.block a hlt (fun e => by have := (hr.lt a e.symm).1; omega)).trans h1, own_other hg hr he _ _ _ h2, h3⟩
theorem Kr.grown {w3 : World} {row : Option Nat} (h : Kr a w wk) (hg : wk.grownBy w3 row) (hr : ∀ q, row = some q → w.heap.size ≤ q) : Kr a w w3 :=
  ⟨hg.os.trans h.1, hg.tape.trans h.2.1, hg.output.trans h.2.2.1, Nat.le_trans h.size hg.size, fun k k1 k2 => (hg.block k (Nat.lt_of_lt_of_le k1 h.size) (fun e => by have := hr k e.symm; omega)).trans (h.2.2.2.2 k k1 k2)⟩
theorem MidR.put {y : Ins} {i : Nat} {v : Value} (h : MidR w a c g L E n x l wk) (hy : InsAt w.heap.size c y (wk.setCell ⟨c, i, none⟩ v)) : MidR w a c g L E n y l (wk.setCell ⟨c, i, none⟩ v) := by
  have hl := h.lt
  obtain ⟨h1, h2, h3, h4, h5, h6, h7⟩ := h
  have hc : ∃ cs, wk.heap[c]? = some (.cells cs 39 (0, 0)) := by obtain ⟨va, vt, k1, _⟩ := h2; exact ⟨_, k1⟩
  obtain ⟨cs, hc⟩ := hc
  refine ⟨h1.set hc (by decide) (by omega) i v, hy, (Below.heap_setCell _ _ _ _ (fun e => h7 e)).trans h3, ?_, h5, h6, h7⟩
  have hb := (Below.refl 0 wk).setCell (p := ⟨c, i, none⟩) (Nat.zero_le c) v
  exact ⟨hb.os.trans h4.1, hb.tape.trans h4.2.1, hb.output.trans h4.2.2.1, Nat.le_trans h4.size hb.size, fun k k1 k2 => (Below.heap_setCell wk ⟨c, i, none⟩ v k (by show k ≠ c; omega)).trans (h4.2.2.2.2 k k1 k2)⟩
theorem MidR.grown {w3 : World} {row : Value} {m : Nat} {ys : List Value} (h : MidR w a c g L E n x l wk) (hg : wk.grownBy w3 row.ownBlock) (hr : wk.ownsRow w.heap.size 3 1 row m ys) : RR a L E n l w3 ∧ w3.heap[g]? = some (.cells #[.int .i64 0, .int .i64 0, .int .i64 0, .int .i64 0, .slice none 0 0, .slice none 0 0, .string ⟨#[]⟩, .int .i64 0] 39 (0, 0)) ∧ Kr a w w3 := by
  have hl := h.lt
  obtain ⟨h1, h2, h3, h4, h5, h6, h7⟩ := h
  exact ⟨h1.grown hg hr (by decide) h5, (hg.block g (by omega) (fun e => own_ne hr h3 (by decide) e.symm)).trans h3, h4.grown hg fun q hq => (hr.lt q hq).1⟩
theorem MidR.arg {gg cap : Nat} {k : Int} {va : Value} {w3 : World} (h : MidR w a c g L E n x l wk) (hc : wk.cell? ⟨c, 4, none⟩ = some va)
    (hown : w3.ownsRow w.heap.size 3 1 (.slice (some ⟨gg, 0, none⟩) (x.2.2.2.2.1.length + 1) cap) (x.2.2.2.2.1.length + 1) (ints x.2.2.2.2.1 ++ [.int .i64 k])) (hg : wk.grownBy w3 va.ownBlock) (hat : va.ownBlock = some gg ∨ gg = wk.heap.size) :
    MidR w a c g L E n (addArg x k) l (w3.setCell ⟨c, 4, none⟩ (.slice (some ⟨gg, 0, none⟩) (x.2.2.2.2.1.length + 1) cap)) := by
  have hl := h.lt
  have hi := h.2.1.arg hc hown hg hat
  obtain ⟨va', vt, k1, k2, k3, k4, k5⟩ := h.2.1
  have e : va' = va := by
    have : wk.cell? ⟨c, 4, none⟩ = some va' := by simp [World.cell?, k1, insCells]
    rw [hc] at this; exact (Option.some.inj this).symm
  subst e
  obtain ⟨r1, r2, r3⟩ := h.grown hg k2
  have k1' : w3.heap[c]? = some (.cells (insCells x va' vt).toArray 39 (0, 0)) := (hg.block c hl.2.2.2.1 (fun e => own_ne k2 k1 (by decide) e.symm)).trans k1
  refine ⟨r1.set k1' (by decide) (by omega) 4 _, hi, (Below.heap_setCell _ _ _ _ (fun e => h.2.2.2.2.2.2 e)).trans r2, ?_, h.2.2.2.2.1, h.2.2.2.2.2.1, h.2.2.2.2.2.2⟩
  have hb := (Below.refl 0 w3).setCell (p := ⟨c, 4, none⟩) (Nat.zero_le c) (.slice (some ⟨gg, 0, none⟩) (x.2.2.2.2.1.length + 1) cap)
  exact ⟨hb.os.trans r3.1, hb.tape.trans r3.2.1, hb.output.trans r3.2.2.1, Nat.le_trans r3.size hb.size, fun k k1 k2 => (Below.heap_setCell w3 ⟨c, 4, none⟩ _ k (by show k ≠ c; omega)).trans (r3.2.2.2.2 k k1 k2)⟩
theorem MidR.to {gg cap : Nat} {k : Int} {vt : Value} {w3 : World} (h : MidR w a c g L E n x l wk) (hc : wk.cell? ⟨c, 5, none⟩ = some vt)
    (hown : w3.ownsRow w.heap.size 3 1 (.slice (some ⟨gg, 0, none⟩) (x.2.2.2.2.2.1.length + 1) cap) (x.2.2.2.2.2.1.length + 1) (ints x.2.2.2.2.2.1 ++ [.int .i64 k])) (hg : wk.grownBy w3 vt.ownBlock) (hat : vt.ownBlock = some gg ∨ gg = wk.heap.size) :
    MidR w a c g L E n (addTo x k) l (w3.setCell ⟨c, 5, none⟩ (.slice (some ⟨gg, 0, none⟩) (x.2.2.2.2.2.1.length + 1) cap)) := by
  have hl := h.lt
  have hi := h.2.1.to hc hown hg hat
  obtain ⟨va, vt', k1, k2, k3, k4, k5⟩ := h.2.1
  have e : vt' = vt := by
    have : wk.cell? ⟨c, 5, none⟩ = some vt' := by simp [World.cell?, k1, insCells]
    rw [hc] at this; exact (Option.some.inj this).symm
  subst e
  obtain ⟨r1, r2, r3⟩ := h.grown hg k3
  have k1' : w3.heap[c]? = some (.cells (insCells x va vt').toArray 39 (0, 0)) := (hg.block c hl.2.2.2.1 (fun e => own_ne k3 k1 (by decide) e.symm)).trans k1
  refine ⟨r1.set k1' (by decide) (by omega) 5 _, hi, (Below.heap_setCell _ _ _ _ (fun e => h.2.2.2.2.2.2 e)).trans r2, ?_, h.2.2.2.2.1, h.2.2.2.2.2.1, h.2.2.2.2.2.2⟩
  have hb := (Below.refl 0 w3).setCell (p := ⟨c, 5, none⟩) (Nat.zero_le c) (.slice (some ⟨gg, 0, none⟩) (x.2.2.2.2.2.1.length + 1) cap)
  exact ⟨hb.os.trans r3.1, hb.tape.trans r3.2.1, hb.output.trans r3.2.2.1, Nat.le_trans r3.size hb.size, fun k k1 k2 => (Below.heap_setCell w3 ⟨c, 5, none⟩ _ k (by show k ≠ c; omega)).trans (r3.2.2.2.2 k k1 k2)⟩
end
/-- The cells of an instruction without lists. -/
abbrev bare8 (op id nn ty : Int) (nm : ByteArray) (p : Int) : Array Value := #[.int .i64 op, .int .i64 id, .int .i64 nn, .int .i64 ty, .slice none 0 0, .slice none 0 0, .string nm, .int .i64 p]
theorem MidR.start {w : World} {a : Nat} {L : List Tok} {E : Int} {n : Nat} {l : List Tok} (h : RR a L E n l w) (op id nn ty : Int) (nm : List UInt8) (p : Int) :
    MidR w a (w.heap.size + 2) (w.heap.size + 1) L E n (op, id, nn, ty, [], [], nm, p) l (((w.alloc (.cells (bare8 op id nn ty (bs nm) p) 39)).alloc (.cells (bare8 0 0 0 0 ⟨#[]⟩ 0) 39)).alloc (.cells (bare8 op id nn ty (bs nm) p) 39)) := by
  have b1 := below_box w (.cells (bare8 op id nn ty (bs nm) p) 39)
  have b2 := below_box (w.alloc (.cells (bare8 op id nn ty (bs nm) p) 39)) (.cells (bare8 0 0 0 0 ⟨#[]⟩ 0) 39)
  have b3 := below_box ((w.alloc (.cells (bare8 op id nn ty (bs nm) p) 39)).alloc (.cells (bare8 0 0 0 0 ⟨#[]⟩ 0) 39)) (.cells (bare8 op id nn ty (bs nm) p) 39)
  have s1 : (w.alloc (.cells (bare8 op id nn ty (bs nm) p) 39)).heap.size = w.heap.size + 1 := by simp
  have s2 : ((w.alloc (.cells (bare8 op id nn ty (bs nm) p) 39)).alloc (.cells (bare8 0 0 0 0 ⟨#[]⟩ 0) 39)).heap.size = w.heap.size + 2 := by simp
  refine ⟨((h.below b1).below b2).below b3, ⟨.slice none 0 0, .slice none 0 0, ?_, World.ownsRow_nil _ _ _ _, World.ownsRow_nil _ _ _ _, .inl rfl, by omega⟩, ?_, Kr.of_below (below_step (below_step b1 b2) b3), h.lt, by omega, by omega⟩
  · rw [← s2]; exact heap_alloc_new _ _
  · refine (b3.block (w.heap.size + 1) (by rw [s2]; omega)).trans ?_
    rw [← s1]; exact heap_alloc_new _ _
/-- What the reading of an instruction answers. -/
def ROut (a : Nat) (L : List Tok) (E : Int) (n : Nat) (y : Ins) (l' : List Tok) (w : World) (e : Ending) (w' : World) : Prop :=
  ∃ v, e = .returned v ∧ InsVal w.heap.size y v w' ∧ RR a L E n l' w' ∧ Kr a w w'
theorem then_inv {α β : Type} {X : Except Er (α × List Tok)} {f : α → G.Rd β} {p : β × List Tok} (h : G.andThen X f = .ok p) : ∃ v r, X = .ok (v, r) ∧ f v r = .ok p := by
  cases X with
  | error e => cases h
  | ok q => exact ⟨q.1, q.2, rfl, h⟩
theorem Far.kr {q a : Nat} {u w wk : World} (h : Far q wk w) (hk : Kr a u wk) (hq : u.heap.size ≤ q) : Kr a u w :=
  ⟨h.1.trans hk.1, h.2.1.trans hk.2.1, h.2.2.1.trans hk.2.2.1, by rw [h.2.2.2.1]; exact hk.size, fun k k1 k2 => (h.2.2.2.2 k (by omega)).trans (hk.2.2.2.2 k k1 k2)⟩
theorem Far.rr {q a : Nat} {L : List Tok} {E : Int} {n : Nat} {l : List Tok} {u w : World} (h : Far q u w) (hr : RR a L E n l u) {cs : Array Value} {t : TypeId} {fz : Nat × Nat} (hq : u.heap[q]? = some (.cells cs t fz)) (ht : t ≠ 96) (hqa : q ≠ a) : RR a L E n l w := by
  obtain ⟨v, h1, h2, h3⟩ := hr
  exact ⟨v, (h.2.2.2.2 a (fun e => hqa e.symm)).trans h1, h.own h2 (own_ne h2 hq ht), h3⟩
end Go.Proofs.YtahhbckccdigoaaGreatDoor
