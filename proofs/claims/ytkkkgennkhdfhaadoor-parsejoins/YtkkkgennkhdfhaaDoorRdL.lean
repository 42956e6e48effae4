/- An instruction is read: what the walk leans on. -/
import Derived.Test.YtkkkgennkhdfhaaDoorRdK
namespace Go.Proofs.YtkkkgennkhdfhaaDoor
open Go Go.RowKit
open G (Tok Er Ins Fun peek0 peek1 atOf)

/-- Only block q may be otherwise. -/
def Far (q : Nat) (u w : World) : Prop := w.os = u.os ∧ w.tape = u.tape ∧ w.output = u.output ∧ w.heap.size = u.heap.size ∧ ∀ k, k ≠ q → w.heap[k]? = u.heap[k]?
theorem Far.refl (q : Nat) (w : World) : Far q w w := ⟨rfl, rfl, rfl, rfl, fun _ _ => rfl⟩
theorem Far.set {q : Nat} {u w : World} (h : Far q u w) (i : Nat) (v : Value) : Far q u (w.setCell ⟨q, i, none⟩ v) :=
  ⟨h.1, h.2.1, h.2.2.1, by rw [← h.2.2.2.1]; simp [World.setCell], fun k hk => (Below.heap_setCell _ _ _ _ hk).trans (h.2.2.2.2 k hk)⟩
theorem Far.kp {q B a : Nat} {u w : World} (h : Far q u w) (hq : B ≤ q) (hqa : q ≠ a) (hn : ∀ (cs : Array Value) (fz : Nat × Nat), u.heap[q]? ≠ some (.cells cs 80 fz)) : Kp B a u w :=
  ⟨⟨h.1, fun k cs fz e => by
    by_cases hk : k = q
    · subst hk; exact absurd e (hn cs fz)
    · exact (h.2.2.2.2 k hk).trans e⟩, h.2.1, ⟨h.2.2.1, fun v e => (World.cell?_of_block (h.2.2.2.2 a (Ne.symm hqa))).trans e⟩, by rw [h.2.2.2.1]; exact Nat.le_refl _, fun k h1 _ => h.2.2.2.2 k (by omega)⟩
theorem Far.rdr {q B a : Nat} {L : List Tok} {E : Int} {n : Nat} {l : List Tok} {u w : World} (h : Far q u w) (hr : Rdr B a L E n l u) (hq : B ≤ q) : Rdr B a L E n l w :=
  hr.keep (by rw [h.2.2.2.1]; exact Nat.le_refl _) fun k hk => h.2.2.2.2 k (by omega)
theorem Far.own {q b e s n : Nat} {v : Value} {xs : List Value} {u w : World} (h : Far q u w) (ho : u.ownsRow b e s v n xs) (hv : v.ownBlock ≠ some q) : w.ownsRow b e s v n xs := by
  refine ⟨ho.1, ?_⟩
  rcases ho.2 with hn | ⟨g, cap, cur, hv2, hb, hg, rest⟩
  · exact .inl hn
  · exact .inr ⟨g, cap, cur, hv2, hb, (h.2.2.2.2 g (fun e => hv (by rw [hv2, ← e]; rfl))).trans hg, rest⟩
/-- The instruction's eight cells. -/
theorem InsAt.cells {B c : Nat} {x : Ins} {w : World} (h : InsAt B c x w) : ∃ va vt, (∀ i v, (insCells x va vt)[i]? = some v → w.cell? ⟨c, i, none⟩ = some v) ∧ (∀ i, w.frozen? ⟨c, i, none⟩ = false) ∧
    w.ownsRow B 3 1 va x.2.2.2.2.1.length (ints x.2.2.2.2.1) ∧ w.ownsRow B 3 1 vt x.2.2.2.2.2.1.length (ints x.2.2.2.2.2.1) ∧ (∀ c' : Nat, (∃ cs fz, w.heap[c']? = some (.cells cs 38 fz)) → va.ownBlock ≠ some c' ∧ vt.ownBlock ≠ some c') := by
  obtain ⟨va, vt, h1, h2, h3, h4, h5⟩ := h
  refine ⟨va, vt, fun i v hv => ?_, fun i => by simp [World.frozen?, h1], h2, h3, fun c' hc => ?_⟩
  · simp only [World.cell?, h1]
    simpa using hv
  · obtain ⟨cs, fz, hc⟩ := hc
    exact ⟨own_ne h2 hc (by decide), own_ne h3 hc (by decide)⟩
/-- The value of an instruction: its lists stand at blocks from B on. -/
def InsVal (B : Nat) (x : Ins) (v : Value) (w : World) : Prop :=
  ∃ va vt, v = .agg (insCells x va vt).toArray ∧ w.ownsRow B 3 1 va x.2.2.2.2.1.length (ints x.2.2.2.2.1) ∧ w.ownsRow B 3 1 vt x.2.2.2.2.2.1.length (ints x.2.2.2.2.2.1)
/-- What stands behind an instruction's value is read. -/
def instrQ (E p id : Int) (l : List Tok) : Except Er (Ins × List Tok) := G.andThen (G.opword fndF mksF E id l) fun o r => runW E (waysN o.1) (o.1, id, 0, o.2, [], [], [], p) r
def instrP (E : Int) (l : List Tok) : Except Er (Ins × List Tok) := G.andThen (G.ident idxF E l) fun id r => instrQ E (atOf E l) id r
theorem find_range (s : ByteArray) : ∀ n i, i + n ≤ 116 → (L5.findN s n i).1 = 0 ∨ (1 ≤ (L5.findN s n i).1 ∧ (L5.findN s n i).1 ≤ 29) := by
  intro n
  induction n with
  | zero => intro i _; exact .inl rfl
  | succ n ih =>
    intro i h
    unfold L5.findN
    split
    · right; constructor <;> (show _ ≤ _; simp; omega)
    · exact ih (i + 1) (by omega)
theorem fnd_range (s : List UInt8) : (fndF s).1 = 0 ∨ (1 ≤ (fndF s).1 ∧ (fndF s).1 ≤ 29) := find_range (bs s) 116 0 (by omega)
theorem opword_zero {E id : Int} {l : List Tok} (h : (fndF (peek0 l)).1 = 0) : G.opword fndF mksF E id l = .error (2, atOf E l) := by
  refine (one_none (if_pos (.inl h))).trans ?_
  show Except.error ((if (fndF (peek0 l)).1 = 0 then (2 : Int) else 8), atOf E l) = _
  rw [if_pos h]
theorem opword_bad {E id : Int} {l : List Tok} (h : ¬ (fndF (peek0 l)).1 = 0) (h2 : decide (mksF (fndF (peek0 l)).1 (fndF (peek0 l)).2 ≠ 0) ≠ decide (0 ≤ id)) : G.opword fndF mksF E id l = .error (8, atOf E l) := by
  refine (one_none (if_pos (.inr h2))).trans ?_
  show Except.error ((if (fndF (peek0 l)).1 = 0 then (2 : Int) else 8), atOf E l) = _
  rw [if_neg h]
theorem opword_good {E id : Int} {l : List Tok} (h : ¬ (fndF (peek0 l)).1 = 0) (h2 : decide (mksF (fndF (peek0 l)).1 (fndF (peek0 l)).2 ≠ 0) = decide (0 ≤ id)) : G.opword fndF mksF E id l = .ok (fndF (peek0 l), l.tail) :=
  one_some (if_neg (fun k => k.elim h (fun k => k h2)))
theorem ident_no {E : Int} {l : List Tok} (h : ¬ peek1 l = [61]) : G.ident idxF E l = .ok (-1, l) := by unfold G.ident; rw [if_neg h]
theorem ident_bad {E : Int} {l : List Tok} {er : Er} (h : peek1 l = [61]) (hv : G.value idxF E l = .error er) : G.ident idxF E l = .error er := by unfold G.ident; rw [if_pos h, hv]; rfl
theorem ident_word {E : Int} {l l' : List Tok} {er : Er} {v : Int} (h : peek1 l = [61]) (hv : G.value idxF E l = .ok (v, l')) (hw : G.want E [61] l' = .error er) : G.ident idxF E l = .error er := by
  unfold G.ident; rw [if_pos h, hv]; show G.andThen (G.want E [61] l') _ = _; rw [hw]; rfl
theorem ident_yes {E : Int} {l l' l2 : List Tok} {v : Int} (h : peek1 l = [61]) (hv : G.value idxF E l = .ok (v, l')) (hw : G.want E [61] l' = .ok ((), l2)) : G.ident idxF E l = .ok (v, l2) := by
  unfold G.ident; rw [if_pos h, hv]; show G.andThen (G.want E [61] l') _ = _; rw [hw]; rfl
theorem find_as (s : List UInt8) (o : Int × Int) (w : World) (ht : L5.Tab w) (ho : fndF s = o) : Calls Tryd.prog 48 #[.string (bs s)] w fun e w' => e = .returned (.tuple #[.int .i64 o.1, .int .i64 o.2]) ∧ Below w.heap.size w w' := by
  subst ho; exact L5.find_any (bs s) w ht
theorem mark_nonneg {s : List UInt8} {v : Int} (h : G.mark idxF 37 1048576 s = some v) : 0 ≤ v := by
  rw [mark_of] at h
  split at h
  · rename_i hc
    cases h
    by_cases h1 : (L1.readNum (behindOf 37 s)).2 = 0
    · by_cases h2 : (L1.readNum (behindOf 37 s)).1 < 0 ∨ 1048576 < (L1.readNum (behindOf 37 s)).1
      · rw [L1.indexNum_out _ _ h1 h2]; exact Int.le_refl 0
      · rw [L1.indexNum_in _ _ h1 h2]
        show 0 ≤ (L1.readNum (behindOf 37 s)).1
        omega
    · rw [L1.indexNum_bad _ _ h1]; exact Int.le_refl 0
  · cases h
def setId (x : Ins) (v : Int) : Ins := (x.1, v, x.2.2.1, x.2.2.2.1, x.2.2.2.2.1, x.2.2.2.2.2.1, x.2.2.2.2.2.2.1, x.2.2.2.2.2.2.2)
def setOp (x : Ins) (v : Int) : Ins := (v, x.2.1, x.2.2.1, x.2.2.2.1, x.2.2.2.2.1, x.2.2.2.2.2.1, x.2.2.2.2.2.2.1, x.2.2.2.2.2.2.2)
def setTy (x : Ins) (v : Int) : Ins := (x.1, x.2.1, x.2.2.1, v, x.2.2.2.2.1, x.2.2.2.2.2.1, x.2.2.2.2.2.2.1, x.2.2.2.2.2.2.2)
theorem InsAt.setId {B c : Nat} {x : Ins} {w : World} (h : InsAt B c x w) (v : Int) : InsAt B c (setId x v) (w.setCell ⟨c, 1, none⟩ (.int .i64 v)) := h.put (fun _ _ => rfl) rfl rfl
theorem InsAt.setOp {B c : Nat} {x : Ins} {w : World} (h : InsAt B c x w) (v : Int) : InsAt B c (setOp x v) (w.setCell ⟨c, 0, none⟩ (.int .i64 v)) := h.put (fun _ _ => rfl) rfl rfl
theorem InsAt.setTy {B c : Nat} {x : Ins} {w : World} (h : InsAt B c x w) (v : Int) : InsAt B c (setTy x v) (w.setCell ⟨c, 3, none⟩ (.int .i64 v)) := h.put (fun _ _ => rfl) rfl rfl
theorem InsAt.new {B : Nat} {w : World} (hB : B ≤ w.heap.size) (p : Int) : InsAt B w.heap.size (0, -1, 0, 0, [], [], [], p) (w.alloc (.cells #[.int .i64 0, .int .i64 (-1), .int .i64 0, .int .i64 0, .slice none 0 0, .slice none 0 0, .string ⟨#[]⟩, .int .i64 p] 38)) :=
  ⟨.slice none 0 0, .slice none 0 0, heap_alloc_new w _, World.ownsRow_nil _ _ _ _, World.ownsRow_nil _ _ _ _, .inl rfl, hB⟩
/-- What stands in memory while an instruction is read, behind its value. -/
def Mid (w : World) (a c : Nat) (L : List Tok) (E : Int) (n : Nat) (x : Ins) (l : List Tok) (wk : World) : Prop :=
  Rdr (w.heap.size + 1) a L E n l wk ∧ InsAt (w.heap.size + 1) c x wk ∧ wk.heap[w.heap.size]? = some (.cells #[.int .i64 0, .int .i64 0, .int .i64 0, .int .i64 0, .slice none 0 0, .slice none 0 0, .string ⟨#[]⟩, .int .i64 0] 38 (0, 0)) ∧ Kp w.heap.size a w wk ∧ Tabs wk ∧ bulk x l ≤ L.length ∧ 2 ≤ a
theorem Mid.step {w : World} {a c : Nat} {L : List Tok} {E : Int} {n : Nat} {x : Ins} {l : List Tok} {wk wk' : World} (h : Mid w a c L E n x l wk) (b : Below wk.heap.size wk wk') : Mid w a c L E n x l wk' := by
  obtain ⟨h1, h2, h3, h4, h5, h6, h7⟩ := h
  exact ⟨h1.step b, h2.step b, (b.block _ (Array.getElem?_eq_some_iff.1 h3).1).trans h3, h4.trans (Kp.of_belowW b h4.size), h5.below b, h6, h7⟩
theorem Mid.lt {w : World} {a c : Nat} {L : List Tok} {E : Int} {n : Nat} {x : Ins} {l : List Tok} {wk : World} (h : Mid w a c L E n x l wk) : a < w.heap.size ∧ w.heap.size < c ∧ c < wk.heap.size ∧ w.heap.size < wk.heap.size := by
  obtain ⟨h1, h2, h3, h4, h5, h6, h7⟩ := h
  have := h1.suffix.2.2.2
  have := h2.lt
  have hne : a ≠ w.heap.size := by
    intro e
    obtain ⟨v, hv, _⟩ := h1
    rw [e, h3] at hv
    simp at hv
  have := (Array.getElem?_eq_some_iff.1 h3).1
  omega
theorem Mid.stepped {w : World} {a c : Nat} {L : List Tok} {E : Int} {n : Nat} {x y : Ins} {l l' : List Tok} {wk wk' : World} (h : Mid w a c L E n x l wk) (k : Kp (w.heap.size + 1) a wk wk') (r : Rdr (w.heap.size + 1) a L E n l' wk') (i : InsAt (w.heap.size + 1) c y wk') (hb : bulk y l' ≤ L.length) : Mid w a c L E n y l' wk' := by
  have hl := h.lt
  obtain ⟨h1, h2, h3, h4, h5, h6, h7⟩ := h
  exact ⟨r, i, (k.2.2.2.2 _ (by omega) (by omega)).trans h3, h4.trans (k.mono (by omega)), h5.kp k h7 (by omega), hb, h7⟩
theorem Mid.took {w : World} {a c : Nat} {L : List Tok} {E : Int} {n : Nat} {x : Ins} {l l' : List Tok} {wk wk' : World} (h : Mid w a c L E n x l wk) (k : Kp wk.heap.size a wk wk') (r : Rdr (w.heap.size + 1) a L E n l' wk') (hb : l'.length ≤ l.length) : Mid w a c L E n x l' wk' := by
  have hl := h.lt
  refine h.stepped (k.mono (by omega)) r (h.2.1.kp k (by omega)) ?_
  have := h.2.2.2.2.2.1
  unfold bulk at *
  omega
theorem Mid.put {w : World} {a c i : Nat} {L : List Tok} {E : Int} {n : Nat} {x y : Ins} {l : List Tok} {wk : World} {v : Value} (h : Mid w a c L E n x l wk) (hi : InsAt (w.heap.size + 1) c y (wk.setCell ⟨c, i, none⟩ v)) (hb : bulk y l = bulk x l) : Mid w a c L E n y l (wk.setCell ⟨c, i, none⟩ v) := by
  have hl := h.lt
  exact h.stepped ((Kp.refl _ _ _).setCell (.inr ⟨by show _ ≤ c; omega, by show c ≠ a; omega⟩) h.2.1.not80 _) (h.1.set (by show _ ≤ c; omega) _) hi (by rw [hb]; exact h.2.2.2.2.2.1)
theorem Mid.cells {w : World} {a c : Nat} {L : List Tok} {E : Int} {n : Nat} {x : Ins} {l : List Tok} {wk : World} (h : Mid w a c L E n x l wk) :
    wk.cell? ⟨c, 0, none⟩ = some (.int .i64 x.1) ∧ wk.cell? ⟨c, 1, none⟩ = some (.int .i64 x.2.1) ∧ wk.cell? ⟨c, 3, none⟩ = some (.int .i64 x.2.2.2.1) ∧ wk.frozen? ⟨c, 0, none⟩ = false ∧ wk.frozen? ⟨c, 1, none⟩ = false ∧ wk.frozen? ⟨c, 3, none⟩ = false := by
  obtain ⟨va, vt, h1, h2, _⟩ := h.2.1.cells
  exact ⟨h1 0 _ rfl, h1 1 _ rfl, h1 3 _ rfl, h2 0, h2 1, h2 3⟩
theorem InsAt.never80 {B c : Nat} {x : Ins} {w : World} (h : InsAt B c x w) : ∀ (cs : Array Value) (fz : Nat × Nat), w.heap[c]? ≠ some (.cells cs 80 fz) := fun cs fz hc => by
  obtain ⟨va, vt, h1, _⟩ := h
  rw [h1] at hc
  simp at hc
theorem Pair.far {q g : Nat} {u w : World} {x y : Value} (h : Pair u g x y) (hf : Far q u w) (hq : g ≠ q) : Pair w g x y := by
  obtain ⟨c0, c1, f0, f1, z⟩ := h
  have e := hf.2.2.2.2 g hq
  exact ⟨(World.cell?_of_block e).trans c0, (World.cell?_of_block e).trans c1, (World.frozen?_of_block e).trans f0, (World.frozen?_of_block e).trans f1, by rw [hf.2.2.2.1]; exact z⟩
theorem makes_as (op t r : Int) (a b c d e f : Value) (w : World) (ht : L5.Tab w) (h : mksF op t = r) : Calls Tryd.prog 49 #[.agg #[.int .i64 op, a, b, .int .i64 t, c, d, e, f]] w fun e w' => e = .returned (.int .i64 r) ∧ Below w.heap.size w w' := by
  subst h; exact L5.makes_any op t a b c d e f w ht
theorem below_drew (w : World) : Below w.heap.size w w.drew := (Below.refl _ _).drew
theorem instrQ_zero {E p id op ty : Int} {l : List Tok} (h : fndF (peek0 l) = (op, ty)) (hop : op = 0) : instrQ E p id l = .error (2, atOf E l) := by
  unfold instrQ
  rw [opword_zero (by rw [h]; exact hop)]; rfl
theorem instrQ_bad {E p id op ty mk : Int} {l : List Tok} (h : fndF (peek0 l) = (op, ty)) (hop : ¬ op = 0) (hmk : mksF op ty = mk) (hb : decide (mk ≠ 0) ≠ decide (0 ≤ id)) : instrQ E p id l = .error (8, atOf E l) := by
  unfold instrQ
  rw [opword_bad (by rw [h]; exact hop) (by rw [h]; show decide (mksF op ty ≠ 0) ≠ _; rw [hmk]; exact hb)]; rfl
theorem instrQ_good {E p id op ty mk : Int} {l : List Tok} (h : fndF (peek0 l) = (op, ty)) (hop : ¬ op = 0) (hmk : mksF op ty = mk) (hb : decide (mk ≠ 0) = decide (0 ≤ id)) : instrQ E p id l = runW E (waysN op) (op, id, 0, ty, [], [], [], p) l.tail := by
  unfold instrQ
  rw [opword_good (by rw [h]; exact hop) (by rw [h]; show decide (mksF op ty ≠ 0) = _; rw [hmk]; exact hb), h]; rfl
theorem good_ne (l : List Tok) (op ty : Int) (h : fndF (peek0 l) = (op, ty)) (hop : ¬ op = 0) : l ≠ [] := fun e => by
  subst e
  have h1 : (fndF []).1 = op := congrArg Prod.fst h
  exact hop (h1.symm.trans fnd_nil)
theorem run_drop {E : Int} {ks : List Nat} {k kk : Nat} {x : Ins} {l : List Tok} (h : ks[k]? = some kk) : runW E (ks.drop k) x l = G.andThen (wayW E kk x l) (runW E (ks.drop (k + 1))) := by
  have : ks.drop k = kk :: ks.drop (k + 1) := by
    obtain ⟨h1, h2⟩ := List.getElem?_eq_some_iff.1 h
    rw [List.drop_eq_getElem_cons h1, h2]
  rw [this]; rfl
/-- Eight cells that may be written. -/
def RES8 (g : Nat) (w : World) : Prop := w.cell? ⟨g, 0, none⟩ = some (.int .i64 0) ∧ w.cell? ⟨g, 1, none⟩ = some (.int .i64 0) ∧ w.cell? ⟨g, 2, none⟩ = some (.int .i64 0) ∧ w.cell? ⟨g, 3, none⟩ = some (.int .i64 0) ∧ w.cell? ⟨g, 4, none⟩ = some (.slice none 0 0) ∧ w.cell? ⟨g, 5, none⟩ = some (.slice none 0 0) ∧ w.cell? ⟨g, 6, none⟩ = some (.string ⟨#[]⟩) ∧ w.cell? ⟨g, 7, none⟩ = some (.int .i64 0) ∧
  w.frozen? ⟨g, 0, none⟩ = false ∧ w.frozen? ⟨g, 1, none⟩ = false ∧ w.frozen? ⟨g, 2, none⟩ = false ∧ w.frozen? ⟨g, 3, none⟩ = false ∧ w.frozen? ⟨g, 4, none⟩ = false ∧ w.frozen? ⟨g, 5, none⟩ = false ∧ w.frozen? ⟨g, 6, none⟩ = false ∧ w.frozen? ⟨g, 7, none⟩ = false
theorem res8 {g : Nat} {w : World} (h : w.heap[g]? = some (.cells #[.int .i64 0, .int .i64 0, .int .i64 0, .int .i64 0, .slice none 0 0, .slice none 0 0, .string ⟨#[]⟩, .int .i64 0] 38 (0, 0))) : RES8 g w := by
  unfold RES8
  simp [World.cell?, World.frozen?, h]
set_option maxRecDepth 20000 in
theorem enter_way (k : Nat) (hk : 57 ≤ k ∧ k ≤ 68) (args : Array Value) (w : World) : Sem.run Tryd.prog (callFunc k args) w = .ok (.enter k args) w := by
  obtain rfl | rfl | rfl | rfl | rfl | rfl | rfl | rfl | rfl | rfl | rfl | rfl : k = 57 ∨ k = 58 ∨ k = 59 ∨ k = 60 ∨ k = 61 ∨ k = 62 ∨ k = 63 ∨ k = 64 ∨ k = 65 ∨ k = 66 ∨ k = 67 ∨ k = 68 := by omega
  all_goals simp [go_sem]
theorem own_slice {w : World} {b e s n : Nat} {v : Value} {xs : List Value} (h : w.ownsRow b e s v n xs) : ∃ (ao : Option Addr) (m cap : Nat), v = .slice ao m cap := by
  rcases h.2 with ⟨hv, _⟩ | ⟨g, cap, cur, hv, _⟩
  · exact ⟨_, _, _, hv⟩
  · exact ⟨_, _, _, hv⟩
end Go.Proofs.YtkkkgennkhdfhaaDoor
