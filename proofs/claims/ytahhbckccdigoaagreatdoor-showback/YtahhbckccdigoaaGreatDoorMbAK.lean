/- An instruction is read: what the walk leans on. -/
import Derived.Test.YtahhbckccdigoaaGreatDoorMbAA
import Derived.Test.YtahhbckccdigoaaGreatDoorMbAJ
set_option maxHeartbeats 8000000
set_option maxRecDepth 20000
namespace Go.Proofs.YtahhbckccdigoaaGreatDoor
open Go Go.RowKit
open G (Tok Er Ins Fun peek0 peek1 atOf)
def Far (q : Nat) (u w : World) : Prop := w.os = u.os /\ w.tape = u.tape /\ w.output = u.output /\ w.heap.size = u.heap.size /\ ∀ k, k ≠ q -> w.heap[k]? = u.heap[k]?
theorem Far.refl (q : Nat) (w : World) : Far q w w := ⟨rfl, rfl, rfl, rfl, fun _ _ => rfl⟩
theorem Far.set {q : Nat} {u w : World} (h : Far q u w) (i : Nat) (v : Value) : Far q u (w.setCell ⟨q, i, none⟩ v) :=
  ⟨h.1, h.2.1, h.2.2.1, by rw [<- h.2.2.2.1]; simp [World.setCell], fun k hk => (Below.heap_setCell _ _ _ _ hk).trans (h.2.2.2.2 k hk)⟩
theorem Far.kp {q B a : Nat} {u w : World} (h : Far q u w) (hq : B <= q) (hqa : q ≠ a) (hn : ∀ (cs : Array Value) (fz : Nat × Nat), u.heap[q]? ≠ some (.cells cs 152 fz)) : Kp B a u w :=
  ⟨⟨h.1, fun k cs fz e => by
    by_cases hk : k = q
    . subst hk; exact absurd e (hn cs fz)
    . exact (h.2.2.2.2 k hk).trans e⟩, h.2.1, ⟨h.2.2.1, fun v e => (World.cell?_of_block (h.2.2.2.2 a (Ne.symm hqa))).trans e⟩, by rw [h.2.2.2.1]; exact Nat.le_refl _, fun k h1 _ => h.2.2.2.2 k (by omega)⟩
theorem Far.rdr {q B a : Nat} {L : List Tok} {E : Int} {n : Nat} {l : List Tok} {u w : World} (h : Far q u w) (hr : Rdr B a L E n l u) (hq : B <= q) : Rdr B a L E n l w :=
  hr.keep (by rw [h.2.2.2.1]; exact Nat.le_refl _) fun k hk => h.2.2.2.2 k (by omega)
theorem Far.own {q b e s n : Nat} {v : Value} {xs : List Value} {u w : World} (h : Far q u w) (ho : u.ownsRow b e s v n xs) (hv : v.ownBlock ≠ some q) : w.ownsRow b e s v n xs := by
  refine ⟨ho.1, ?_⟩
  rcases ho.2 with hn | ⟨g, cap, cur, hv2, hb, hg, rest⟩
  . exact .inl hn
  . exact .inr ⟨g, cap, cur, hv2, hb, (h.2.2.2.2 g (fun e => hv (by rw [hv2, <- e]; rfl))).trans hg, rest⟩
theorem InsAt.cells {B c : Nat} {x : Ins} {w : World} (h : InsAt B c x w) : ∃ va vt, (∀ i v, (insCells x va vt)[i]? = some v -> w.cell? ⟨c, i, none⟩ = some v) /\ (∀ i, w.frozen? ⟨c, i, none⟩ = false) /\
    w.ownsRow B 3 1 va x.2.2.2.2.1.length (ints x.2.2.2.2.1) /\ w.ownsRow B 3 1 vt x.2.2.2.2.2.1.length (ints x.2.2.2.2.2.1) /\ (∀ c' : Nat, (∃ cs fz, w.heap[c']? = some (.cells cs 39 fz)) -> va.ownBlock ≠ some c' /\ vt.ownBlock ≠ some c') := by
  obtain ⟨va, vt, h1, h2, h3, h4, h5⟩ := h
  refine ⟨va, vt, fun i v hv => ?_, fun i => by simp [World.frozen?, h1], h2, h3, fun c' hc => ?_⟩
  . simp only [World.cell?, h1]
    simpa using hv
  . obtain ⟨cs, fz, hc⟩ := hc
    exact ⟨own_ne h2 hc (by decide), own_ne h3 hc (by decide)⟩
def InsVal (B : Nat) (x : Ins) (v : Value) (w : World) : Prop :=
  ∃ va vt, v = .agg (insCells x va vt).toArray /\ w.ownsRow B 3 1 va x.2.2.2.2.1.length (ints x.2.2.2.2.1) /\ w.ownsRow B 3 1 vt x.2.2.2.2.2.1.length (ints x.2.2.2.2.2.1)
def instrQ (E p id : Int) (l : List Tok) : Except Er (Ins × List Tok) := G.andThen (G.opword fndF mksF E id l) fun o r => runW E (waysN o.1) (o.1, id, 0, o.2, [], [], [], p) r
def instrP (E : Int) (l : List Tok) : Except Er (Ins × List Tok) := G.andThen (G.ident idxF E l) fun id r => instrQ E (atOf E l) id r
theorem find_range (s : ByteArray) : ∀ n i, i + n <= 116 -> (L5.findN s n i).1 = 0 \/ (1 <= (L5.findN s n i).1 /\ (L5.findN s n i).1 <= 29) := by
  intro n
  induction n with
  | zero => intro i _; exact .inl rfl
  | succ n ih =>
    intro i h
    unfold L5.findN
    split
    . right; constructor <;> (show _ <= _; simp; omega)
    . exact ih (i + 1) (by omega)
theorem fnd_range (s : List UInt8) : (fndF s).1 = 0 \/ (1 <= (fndF s).1 /\ (fndF s).1 <= 29) := find_range (bs s) 116 0 (by omega)
theorem opword_zero {E id : Int} {l : List Tok} (h : (fndF (peek0 l)).1 = 0) : G.opword fndF mksF E id l = .error (2, atOf E l) := by
  refine (one_none (if_pos (.inl h))).trans ?_
  show Except.error ((if (fndF (peek0 l)).1 = 0 then (2 : Int) else 8), atOf E l) = _
  rw [if_pos h]
theorem opword_bad {E id : Int} {l : List Tok} (h : ¬ (fndF (peek0 l)).1 = 0) (h2 : decide (mksF (fndF (peek0 l)).1 (fndF (peek0 l)).2 ≠ 0) ≠ decide (0 <= id)) : G.opword fndF mksF E id l = .error (8, atOf E l) := by
  refine (one_none (if_pos (.inr h2))).trans ?_
  show Except.error ((if (fndF (peek0 l)).1 = 0 then (2 : Int) else 8), atOf E l) = _
  rw [if_neg h]
theorem opword_good {E id : Int} {l : List Tok} (h : ¬ (fndF (peek0 l)).1 = 0) (h2 : decide (mksF (fndF (peek0 l)).1 (fndF (peek0 l)).2 ≠ 0) = decide (0 <= id)) : G.opword fndF mksF E id l = .ok (fndF (peek0 l), l.tail) :=
  one_some (if_neg (fun k => k.elim h (fun k => k h2)))
theorem ident_no {E : Int} {l : List Tok} (h : ¬ peek1 l = [61]) : G.ident idxF E l = .ok (-1, l) := by unfold G.ident; rw [if_neg h]
theorem ident_bad {E : Int} {l : List Tok} {er : Er} (h : peek1 l = [61]) (hv : G.value idxF E l = .error er) : G.ident idxF E l = .error er := by unfold G.ident; rw [if_pos h, hv]; rfl
theorem ident_word {E : Int} {l l' : List Tok} {er : Er} {v : Int} (h : peek1 l = [61]) (hv : G.value idxF E l = .ok (v, l')) (hw : G.want E [61] l' = .error er) : G.ident idxF E l = .error er := by
  unfold G.ident; rw [if_pos h, hv]; show G.andThen (G.want E [61] l') _ = _; rw [hw]; rfl
theorem ident_yes {E : Int} {l l' l2 : List Tok} {v : Int} (h : peek1 l = [61]) (hv : G.value idxF E l = .ok (v, l')) (hw : G.want E [61] l' = .ok ((), l2)) : G.ident idxF E l = .ok (v, l2) := by
  unfold G.ident; rw [if_pos h, hv]; show G.andThen (G.want E [61] l') _ = _; rw [hw]; rfl
theorem find_as (s : List UInt8) (o : Int × Int) (w : World) (ht : L5.Tab w) (ho : fndF s = o) : Calls Tryz.prog 140 #[.string (bs s)] w fun e w' => e = .returned (.tuple #[.int .i64 o.1, .int .i64 o.2]) /\ Below w.heap.size w w' := by
  subst ho; exact L5.find_any (bs s) w ht
theorem mark_nonneg {s : List UInt8} {v : Int} (h : G.mark idxF 37 1048576 s = some v) : 0 <= v := by
  rw [mark_of] at h
  split at h
  . rename_i hc
    cases h
    by_cases h1 : (L1.readNum (behindOf 37 s)).2 = 0
    . by_cases h2 : (L1.readNum (behindOf 37 s)).1 < 0 \/ 1048576 < (L1.readNum (behindOf 37 s)).1
      . rw [L1.indexNum_out _ _ h1 h2]; exact Int.le_refl 0
      . rw [L1.indexNum_in _ _ h1 h2]
        show 0 <= (L1.readNum (behindOf 37 s)).1
        omega
    . rw [L1.indexNum_bad _ _ h1]; exact Int.le_refl 0
  . cases h
def setId (x : Ins) (v : Int) : Ins := (x.1, v, x.2.2.1, x.2.2.2.1, x.2.2.2.2.1, x.2.2.2.2.2.1, x.2.2.2.2.2.2.1, x.2.2.2.2.2.2.2)
def setOp (x : Ins) (v : Int) : Ins := (v, x.2.1, x.2.2.1, x.2.2.2.1, x.2.2.2.2.1, x.2.2.2.2.2.1, x.2.2.2.2.2.2.1, x.2.2.2.2.2.2.2)
def setTy (x : Ins) (v : Int) : Ins := (x.1, x.2.1, x.2.2.1, v, x.2.2.2.2.1, x.2.2.2.2.2.1, x.2.2.2.2.2.2.1, x.2.2.2.2.2.2.2)
theorem InsAt.setId {B c : Nat} {x : Ins} {w : World} (h : InsAt B c x w) (v : Int) : InsAt B c (setId x v) (w.setCell ⟨c, 1, none⟩ (.int .i64 v)) := h.put (fun _ _ => rfl) rfl rfl
theorem InsAt.setOp {B c : Nat} {x : Ins} {w : World} (h : InsAt B c x w) (v : Int) : InsAt B c (setOp x v) (w.setCell ⟨c, 0, none⟩ (.int .i64 v)) := h.put (fun _ _ => rfl) rfl rfl
theorem InsAt.setTy {B c : Nat} {x : Ins} {w : World} (h : InsAt B c x w) (v : Int) : InsAt B c (setTy x v) (w.setCell ⟨c, 3, none⟩ (.int .i64 v)) := h.put (fun _ _ => rfl) rfl rfl
theorem InsAt.new {B : Nat} {w : World} (hB : B <= w.heap.size) (p : Int) : InsAt B w.heap.size (0, -1, 0, 0, [], [], [], p) (w.alloc (.cells #[.int .i64 0, .int .i64 (-1), .int .i64 0, .int .i64 0, .slice none 0 0, .slice none 0 0, .string ⟨#[]⟩, .int .i64 p] 39)) :=
  ⟨.slice none 0 0, .slice none 0 0, heap_alloc_new w _, World.ownsRow_nil _ _ _ _, World.ownsRow_nil _ _ _ _, .inl rfl, hB⟩
def Mid (w : World) (a c : Nat) (L : List Tok) (E : Int) (n : Nat) (x : Ins) (l : List Tok) (wk : World) : Prop :=
  Rdr (w.heap.size + 1) a L E n l wk /\ InsAt (w.heap.size + 1) c x wk /\ wk.heap[w.heap.size]? = some (.cells #[.int .i64 0, .int .i64 0, .int .i64 0, .int .i64 0, .slice none 0 0, .slice none 0 0, .string ⟨#[]⟩, .int .i64 0] 39 (0, 0)) /\ Kp w.heap.size a w wk /\ Tabs wk /\ bulk x l <= L.length /\ 2 <= a
theorem Mid.step {w : World} {a c : Nat} {L : List Tok} {E : Int} {n : Nat} {x : Ins} {l : List Tok} {wk wk' : World} (h : Mid w a c L E n x l wk) (b : Below wk.heap.size wk wk') : Mid w a c L E n x l wk' := by
  obtain ⟨h1, h2, h3, h4, h5, h6, h7⟩ := h
  exact ⟨h1.step b, h2.step b, (b.block _ (Array.getElem?_eq_some_iff.1 h3).1).trans h3, h4.trans (Kp.of_belowW b h4.size), h5.below b, h6, h7⟩
theorem Mid.lt {w : World} {a c : Nat} {L : List Tok} {E : Int} {n : Nat} {x : Ins} {l : List Tok} {wk : World} (h : Mid w a c L E n x l wk) : a < w.heap.size /\ w.heap.size < c /\ c < wk.heap.size /\ w.heap.size < wk.heap.size := by
  obtain ⟨h1, h2, h3, h4, h5, h6, h7⟩ := h
  have := h1.suffix.2.2.2
  have := h2.lt
  have hne : a ≠ w.heap.size := by
    intro e
    obtain ⟨v, hv, _⟩ := h1
    rw [e, h3] at hv
    simp at hv
  have := (Array.getElem?_eq_some_iff.1 h3).1
  omega
theorem Mid.stepped {w : World} {a c : Nat} {L : List Tok} {E : Int} {n : Nat} {x y : Ins} {l l' : List Tok} {wk wk' : World} (h : Mid w a c L E n x l wk) (k : Kp (w.heap.size + 1) a wk wk') (r : Rdr (w.heap.size + 1) a L E n l' wk') (i : InsAt (w.heap.size + 1) c y wk') (hb : bulk y l' <= L.length) : Mid w a c L E n y l' wk' := by
  have hl := h.lt
  obtain ⟨h1, h2, h3, h4, h5, h6, h7⟩ := h
  exact ⟨r, i, (k.2.2.2.2 _ (by omega) (by omega)).trans h3, h4.trans (k.mono (by omega)), h5.kp k h7 (by omega), hb, h7⟩
theorem Mid.took {w : World} {a c : Nat} {L : List Tok} {E : Int} {n : Nat} {x : Ins} {l l' : List Tok} {wk wk' : World} (h : Mid w a c L E n x l wk) (k : Kp wk.heap.size a wk wk') (r : Rdr (w.heap.size + 1) a L E n l' wk') (hb : l'.length <= l.length) : Mid w a c L E n x l' wk' := by
  have hl := h.lt
  refine h.stepped (k.mono (by omega)) r (h.2.1.kp k (by omega)) ?_
  have := h.2.2.2.2.2.1
  unfold bulk at *
  omega
theorem Mid.put {w : World} {a c i : Nat} {L : List Tok} {E : Int} {n : Nat} {x y : Ins} {l : List Tok} {wk : World} {v : Value} (h : Mid w a c L E n x l wk) (hi : InsAt (w.heap.size + 1) c y (wk.setCell ⟨c, i, none⟩ v)) (hb : bulk y l = bulk x l) : Mid w a c L E n y l (wk.setCell ⟨c, i, none⟩ v) := by
  have hl := h.lt
  exact h.stepped ((Kp.refl _ _ _).setCell (.inr ⟨by show _ <= c; omega, by show c ≠ a; omega⟩) h.2.1.not80 _) (h.1.set (by show _ <= c; omega) _) hi (by rw [hb]; exact h.2.2.2.2.2.1)
theorem Mid.cells {w : World} {a c : Nat} {L : List Tok} {E : Int} {n : Nat} {x : Ins} {l : List Tok} {wk : World} (h : Mid w a c L E n x l wk) :
    wk.cell? ⟨c, 0, none⟩ = some (.int .i64 x.1) /\ wk.cell? ⟨c, 1, none⟩ = some (.int .i64 x.2.1) /\ wk.cell? ⟨c, 3, none⟩ = some (.int .i64 x.2.2.2.1) /\ wk.frozen? ⟨c, 0, none⟩ = false /\ wk.frozen? ⟨c, 1, none⟩ = false /\ wk.frozen? ⟨c, 3, none⟩ = false := by
  obtain ⟨va, vt, h1, h2, _⟩ := h.2.1.cells
  exact ⟨h1 0 _ rfl, h1 1 _ rfl, h1 3 _ rfl, h2 0, h2 1, h2 3⟩
theorem InsAt.never80 {B c : Nat} {x : Ins} {w : World} (h : InsAt B c x w) : ∀ (cs : Array Value) (fz : Nat × Nat), w.heap[c]? ≠ some (.cells cs 152 fz) := fun cs fz hc => by
  obtain ⟨va, vt, h1, _⟩ := h
  rw [h1] at hc
  simp at hc
theorem Pair.far {q g : Nat} {u w : World} {x y : Value} (h : Pair u g x y) (hf : Far q u w) (hq : g ≠ q) : Pair w g x y := by
  obtain ⟨c0, c1, f0, f1, z⟩ := h
  have e := hf.2.2.2.2 g hq
  exact ⟨(World.cell?_of_block e).trans c0, (World.cell?_of_block e).trans c1, (World.frozen?_of_block e).trans f0, (World.frozen?_of_block e).trans f1, by rw [hf.2.2.2.1]; exact z⟩
theorem makes_as (op t r : Int) (a b c d e f : Value) (w : World) (ht : L5.Tab w) (h : mksF op t = r) : Calls Tryz.prog 31 #[.agg #[.int .i64 op, a, b, .int .i64 t, c, d, e, f]] w fun e w' => e = .returned (.int .i64 r) /\ Below w.heap.size w w' := by
  subst h; exact L5.makes_any op t a b c d e f w ht
theorem below_drew (w : World) : Below w.heap.size w w.drew := (Below.refl _ _).drew
theorem instrQ_zero {E p id op ty : Int} {l : List Tok} (h : fndF (peek0 l) = (op, ty)) (hop : op = 0) : instrQ E p id l = .error (2, atOf E l) := by
  unfold instrQ
  rw [opword_zero (by rw [h]; exact hop)]; rfl
theorem instrQ_bad {E p id op ty mk : Int} {l : List Tok} (h : fndF (peek0 l) = (op, ty)) (hop : ¬ op = 0) (hmk : mksF op ty = mk) (hb : decide (mk ≠ 0) ≠ decide (0 <= id)) : instrQ E p id l = .error (8, atOf E l) := by
  unfold instrQ
  rw [opword_bad (by rw [h]; exact hop) (by rw [h]; show decide (mksF op ty ≠ 0) ≠ _; rw [hmk]; exact hb)]; rfl
theorem instrQ_good {E p id op ty mk : Int} {l : List Tok} (h : fndF (peek0 l) = (op, ty)) (hop : ¬ op = 0) (hmk : mksF op ty = mk) (hb : decide (mk ≠ 0) = decide (0 <= id)) : instrQ E p id l = runW E (waysN op) (op, id, 0, ty, [], [], [], p) l.tail := by
  unfold instrQ
  rw [opword_good (by rw [h]; exact hop) (by rw [h]; show decide (mksF op ty ≠ 0) = _; rw [hmk]; exact hb), h]; rfl
theorem good_ne (l : List Tok) (op ty : Int) (h : fndF (peek0 l) = (op, ty)) (hop : ¬ op = 0) : l ≠ [] := fun e => by
  subst e
  have h1 : (fndF []).1 = op := congrArg Prod.fst h
  exact hop (h1.symm.trans fnd_nil)
theorem run_drop {E : Int} {ks : List Nat} {k kk : Nat} {x : Ins} {l : List Tok} (h : ks[k]? = some kk) : runW E (ks.drop k) x l = G.andThen (wayW E kk x l) (runW E (ks.drop (k + 1))) := by
  have : ks.drop k = kk :: ks.drop (k + 1) := by
    obtain ⟨h1, h2⟩ := List.getElem?_eq_some_iff.1 h
    rw [List.drop_eq_getElem_cons h1, h2]
  rw [this]; rfl
def RES8 (g : Nat) (w : World) : Prop := w.cell? ⟨g, 0, none⟩ = some (.int .i64 0) /\ w.cell? ⟨g, 1, none⟩ = some (.int .i64 0) /\ w.cell? ⟨g, 2, none⟩ = some (.int .i64 0) /\ w.cell? ⟨g, 3, none⟩ = some (.int .i64 0) /\ w.cell? ⟨g, 4, none⟩ = some (.slice none 0 0) /\ w.cell? ⟨g, 5, none⟩ = some (.slice none 0 0) /\ w.cell? ⟨g, 6, none⟩ = some (.string ⟨#[]⟩) /\ w.cell? ⟨g, 7, none⟩ = some (.int .i64 0) /\
  w.frozen? ⟨g, 0, none⟩ = false /\ w.frozen? ⟨g, 1, none⟩ = false /\ w.frozen? ⟨g, 2, none⟩ = false /\ w.frozen? ⟨g, 3, none⟩ = false /\ w.frozen? ⟨g, 4, none⟩ = false /\ w.frozen? ⟨g, 5, none⟩ = false /\ w.frozen? ⟨g, 6, none⟩ = false /\ w.frozen? ⟨g, 7, none⟩ = false
theorem res8 {g : Nat} {w : World} (h : w.heap[g]? = some (.cells #[.int .i64 0, .int .i64 0, .int .i64 0, .int .i64 0, .slice none 0 0, .slice none 0 0, .string ⟨#[]⟩, .int .i64 0] 39 (0, 0))) : RES8 g w := by
  unfold RES8
  simp [World.cell?, World.frozen?, h]
theorem enter_way (k : Nat) (hk : 150 <= k /\ k <= 161) (args : Array Value) (w : World) : Sem.run Tryz.prog (callFunc k args) w = .ok (.enter k args) w := by
  obtain rfl | rfl | rfl | rfl | rfl | rfl | rfl | rfl | rfl | rfl | rfl | rfl : k = 150 \/ k = 151 \/ k = 152 \/ k = 153 \/ k = 154 \/ k = 155 \/ k = 156 \/ k = 157 \/ k = 158 \/ k = 159 \/ k = 160 \/ k = 161 := by omega
  all_goals simp [go_sem]
theorem own_slice {w : World} {b e s n : Nat} {v : Value} {xs : List Value} (h : w.ownsRow b e s v n xs) : ∃ (ao : Option Addr) (m cap : Nat), v = .slice ao m cap := by
  rcases h.2 with ⟨hv, _⟩ | ⟨g, cap, cur, hv, _⟩
  . exact ⟨_, _, _, hv⟩
  . exact ⟨_, _, _, hv⟩
end Go.Proofs.YtahhbckccdigoaaGreatDoor
namespace Go.Proofs.YtahhbckccdigoaaGreatDoor
open Go Go.RowKit
open G (Tok Er Ins Fun peek0 peek1 atOf)
def OutI (B a : Nat) (L : List Tok) (E : Int) (n : Nat) (r : Except Er (Ins × List Tok)) (w : World) (e : Ending) (w' : World) : Prop :=
  Kp w.heap.size a w w' /\ ((∃ x l' v, r = .ok (x, l') /\ e = .returned v /\ InsVal w.heap.size x v w' /\ Rdr B a L E n l' w') \/ ∃ er : Er, r = .error er /\ e = thrown er.1 er.2)
theorem instr_no {B a : Nat} {L : List Tok} {E : Int} {n : Nat} {l : List Tok} (w : World) (h : Rdr B a L E n l w) (ht : Tabs w) (h2 : 2 <= a) (hn : ¬ peek1 l = [61]) :
    Calls Tryz.prog 125 #[.pointer (some ⟨a, 0, none⟩)] w (OutI B a L E n (instrP E l) w) := by
  have hfd : ∀ (t a : Value) (w : World), Sem.run Tryz.prog (Instr.field 96 (.agg #[t, a]) 0) w = .ok t w := field_tok
  have hfd1 : ∀ (t a : Value) (w : World), Sem.run Tryz.prog (Instr.field 96 (.agg #[t, a]) 1) w = .ok a w := fun _ _ _ => rfl
  have hsm := h.suffix
  have hBw := h.size
  have hb0 := below_box w (.cells #[.int .i64 0, .int .i64 0, .int .i64 0, .int .i64 0, .slice none 0 0, .slice none 0 0, .string ⟨#[]⟩, .int .i64 0] 39)
  have H0 := hide (((h.mono hBw (Nat.le_refl _)).step hb0).mono (Nat.le_succ _) (by simp))
  have T0 := hide (ht.below hb0)
  have HB0 := hide hb0
  have S0 : Hid ((w.alloc (.cells #[.int .i64 0, .int .i64 0, .int .i64 0, .int .i64 0, .slice none 0 0, .slice none 0 0, .string ⟨#[]⟩, .int .i64 0] 39)).heap[w.heap.size]? = some (.cells #[.int .i64 0, .int .i64 0, .int .i64 0, .int .i64 0, .slice none 0 0, .slice none 0 0, .string ⟨#[]⟩, .int .i64 0] 39 (0, 0))) := hide (heap_alloc_new w _)
  have HN : ((bs (peek1 l)).toList == [61]) = false := (is_text (peek1 l) [61]).trans (decide_eq_false hn)
  have HP : Hid (instrP E l = instrQ E (atOf E l) (-1) l) := hide (by unfold instrP; rw [ident_no hn]; rfl)
  have HR0 := hide h
  clear h ht hb0 hn
  go_enter Tryz.func125, Tryz.ntmps125
  go_upto_region 1 with fail
  show Code.wp _ _ _ _ (w.alloc (.cells #[.int .i64 0, .int .i64 0, .int .i64 0, .int .i64 0, .slice none 0 0, .slice none 0 0, .string ⟨#[]⟩, .int .i64 0] 39))
  generalize w.alloc (.cells #[.int .i64 0, .int .i64 0, .int .i64 0, .int .i64 0, .slice none 0 0, .slice none 0 0, .string ⟨#[]⟩, .int .i64 0] 39) = W0 at *
  go_wp2_with fail
  refine (peek0_any _ H0.out).mono ?_; rintro e w1 ⟨rfl, b1⟩
  have hz1 : w.heap.size + 1 <= w1.heap.size := Nat.le_trans H0.out.size b1.size
  have M0 : Hid (Mid w a w1.heap.size L E n (0, -1, 0, 0, [], [], [], atOf E l) l (w1.alloc (.cells #[.int .i64 0, .int .i64 (-1), .int .i64 0, .int .i64 0, .slice none 0 0, .slice none 0 0, .string ⟨#[]⟩, .int .i64 (atOf E l)] 39))) :=
    hide ⟨(H0.out.step b1).step (below_box w1 _), InsAt.new hz1 _, ((below_step b1 (below_box w1 _)).block _ (Array.getElem?_eq_some_iff.1 S0.out).1).trans S0.out, Kp.of_belowW (below_step HB0.out (below_step b1 (below_box w1 _))) (Nat.le_refl _), T0.out.below (below_step b1 (below_box w1 _)), by have := hsm.1.length_le; simp [bulk]; omega, h2⟩
  clear H0 T0 HB0 S0 b1
  go_upto_region 2 with fail
  show Code.wp _ _ _ _ (w1.alloc (.cells #[.int .i64 0, .int .i64 (-1), .int .i64 0, .int .i64 0, .slice none 0 0, .slice none 0 0, .string ⟨#[]⟩, .int .i64 (atOf E l)] 39))
  generalize w1.alloc (.cells #[.int .i64 0, .int .i64 (-1), .int .i64 0, .int .i64 0, .slice none 0 0, .slice none 0 0, .string ⟨#[]⟩, .int .i64 (atOf E l)] 39) = W1 at *
  generalize w1.heap.size = c at *
  go_wp2_with fail
  refine (peek1_any _ M0.out.1).mono ?_; rintro e w1 ⟨z, rfl, b1⟩
  have M := hide (M0.out.step b1)
  clear M0 b1
  have hlt := M.out.lt
  have hbi : Hid (false = decide ((0 : Int) <= -1)) := hide (by decide)
  go_wp2_with fail
  refine (take_any _ M.out.1).mono ?_; rintro e w1 ⟨rfl, k1, r1⟩
  have P1 := hide (Pair.new w1 96 (a := .string (bs (peek0 l))) (b := .int .i64 (atOf E l)))
  have K1 := hide (M.out.2.2.2.1.trans ((k1.andBelow (below_box w1 (tokBox l E))).mono M.out.2.2.2.1.size))
  have M1 := hide (fun hl : l ≠ [] => ((M.out.took k1 (r1 hl) (by have := tail_bulk hl; omega)).step (below_box w1 (tokBox l E))))
  have I1 := hide ((M.out.2.1.kp k1 (by omega)).step (below_box w1 (tokBox l E)))
  have T1 := hide ((M.out.2.2.2.2.1.kp k1 h2 (by omega)).below (below_box w1 (tokBox l E)))
  have hcw : c < w1.heap.size := Nat.lt_of_lt_of_le hlt.2.2.1 k1.size
  have hsh := M.out.1.short
  clear k1 r1 M
  go_upto_region 7 with fail
  show Code.wp _ _ _ _ (w1.alloc (tokBox l E))
  generalize w1.alloc (tokBox l E) = W1 at *
  generalize w1.heap.size = tb at *
  obtain ⟨o, ho⟩ : ∃ o, fndF (peek0 l) = o := ⟨_, rfl⟩
  have hor := fnd_range (peek0 l)
  rw [ho] at hor
  obtain ⟨op, ty⟩ := o
  have ho := hide ho
  obtain ⟨p0, p1, p2, p3, p4⟩ := P1.out
  go_wp2_with fail
  refine (find_as (peek0 l) (op, ty) _ T1.out.2 ho.out).mono ?_; rintro e w2 ⟨rfl, b2⟩
  have P2 := hide (P1.out.below b2)
  have I2 := hide (I1.out.step b2)
  have M2 := hide (fun hl => (M1.out hl).step b2)
  have K2 := hide (K1.out.trans (Kp.of_belowW b2 K1.out.size))
  have T2 := hide (T1.out.below b2)
  clear P1 I1 M1 K1 T1 p0 p1 p2 p3 p4
  obtain ⟨va, vt, HC, HZ, _⟩ := I2.out.cells
  have c0 := HC 0 _ rfl
  have c3 := HC 3 _ rfl
  have z0 := HZ 0
  have z3 := HZ 3
  have hc2 : c < w2.heap.size := I2.out.lt.1
  have F3 := (Far.refl c w2).set 0 (.int .i64 op) |>.set 3 (.int .i64 ty)
  have P3 := hide (P2.out.far F3 (by omega))
  have I3 := hide ((I2.out.setOp op).setTy ty)
  have M3 := hide (fun hl => ((M2.out hl).put ((M2.out hl).2.1.setOp op) rfl).put (((M2.out hl).2.1.setOp op).setTy ty) rfl)
  have K3 := hide (K2.out.trans (F3.kp (B := w.heap.size) (a := a) (by omega) (by omega) (I2.out.never80)))
  have T3 := hide (T2.out.of (by rw [F3.2.2.2.1]; exact Nat.le_refl _) (F3.2.2.2.2 0 (by omega)) (F3.2.2.2.2 1 (by omega)))
  clear HC HZ F3 I2 M2 K2 T2
  go_upto_region 8 with fail
  show Code.wp _ _ _ _ ((w2.setCell ⟨c, 0, none⟩ (.int .i64 op)).setCell ⟨c, 3, none⟩ (.int .i64 ty))
  generalize (w2.setCell ⟨c, 0, none⟩ (.int .i64 op)).setCell ⟨c, 3, none⟩ (.int .i64 ty) = W3 at *
  clear c0 c3 z0 z3 hc2 b2
  have d0 : W3.cell? ⟨c, 0, none⟩ = some (.int .i64 op) := by
    obtain ⟨_, _, HC, _⟩ := I3.out.cells
    exact HC 0 _ rfl
  obtain ⟨p0, p1, p2, p3, p4⟩ := P3.out
  by_cases hop : op = 0
  . have HPz := hide (HP.out.trans (instrQ_zero ho.out hop))
    subst hop
    go_wp2_with fail
    refine (need_no _ _ _ _).mono ?_; rintro e w4 ⟨rfl, b4⟩
    unfold thrown
    go_wp2_with fail
    exact bodyPost_thrown ⟨K3.out.trans (Kp.of_belowW b4 K3.out.size), .inr ⟨_, HPz.out, rfl⟩⟩
  have hop' : (op == 0) = false := by simpa using hop
  have hop2 : (op != 0) = true := by simpa using hop
  have hop3 : decide (op = 0) = false := by simpa using hop
  have hor' : 1 <= op /\ op <= 29 := by
    rcases hor with h | h
    . exact absurd h hop
    . exact h
  clear hor
  have hl1 : l ≠ [] := good_ne l op ty ho.out hop
  go_wp2_with fail
  refine (need_ok _ _ _ _).mono ?_; rintro e w4 ⟨rfl, b4⟩
  have P4 := hide (P3.out.below b4)
  have M4 := hide ((M3.out hl1).step b4)
  have K4 := hide (K3.out.trans (Kp.of_belowW b4 K3.out.size))
  clear P3 I3 M3 K3 T3 d0 p0 p1 p2 p3 p4 b4
  obtain ⟨va, vt, HC, HZ, _⟩ := M4.out.2.1.cells
  have x0 : w4.cell? ⟨c, 0, none⟩ = some (.int .i64 op) := HC 0 _ rfl
  have x1 : w4.cell? ⟨c, 1, none⟩ = some (.int .i64 (-1)) := HC 1 _ rfl
  have x2 : w4.cell? ⟨c, 2, none⟩ = some (.int .i64 0) := HC 2 _ rfl
  have x3 : w4.cell? ⟨c, 3, none⟩ = some (.int .i64 ty) := HC 3 _ rfl
  have x4 : w4.cell? ⟨c, 4, none⟩ = some va := HC 4 _ rfl
  have x5 : w4.cell? ⟨c, 5, none⟩ = some vt := HC 5 _ rfl
  have x6 : w4.cell? ⟨c, 6, none⟩ = some (.string (bs [])) := HC 6 _ rfl
  have x7 : w4.cell? ⟨c, 7, none⟩ = some (.int .i64 (atOf E l)) := HC 7 _ rfl
  obtain ⟨p0, p1, p2, p3, p4⟩ := P4.out
  have hc4 : c < w4.heap.size := M4.out.lt.2.2.1
  clear HC HZ
  obtain ⟨mk, hmk⟩ : ∃ mk, mksF op ty = mk := ⟨_, rfl⟩
  by_cases hm : mk = 0
  . -- the word fits
    have HPg := hide (HP.out.trans (instrQ_good ho.out hop hmk (by rw [<- hbi.out]; simp [hm])))
    have hmb : (mk == 0) = true := by rw [hm]; rfl
    have hmb2 : (mk != 0) = false := by rw [hm]; rfl
    replace hm := hide hm
    go_wp2_with fail
    go_region_with ((first
      | (go_at_call 31; refine (makes_as op ty mk _ _ _ _ _ _ _ (M4.out.2.2.2.2.1.below (below_drew w4)).2 hmk).mono ?_; rintro e w5 ⟨rfl, b5⟩; obtain ⟨q0, q1, q2, q3, q4⟩ := P4.out.below (Below.undrew b5))
      | (go_at_call 101; refine (need_ok _ _ _ _).mono ?_; rintro e w6 ⟨rfl, b6⟩)))
    all_goals
      have M6 := hide (M4.out.step (below_step (Below.undrew b5) b6))
      clear b5 b6 q0 q1 q2 q3 q4
      have y0 := M6.out.cells.1
      go_wp2_with fail
      refine (operands_any op hor' a _ M6.out.2.2.2.2.1.2).mono ?_; rintro e w7 ⟨b7, g, cap, cs, fz, rfl, hm1, hm2, hm3, HG, hcs⟩
      replace HG := hide HG
      replace hcs := hide hcs
      have M7 := hide (M6.out.step b7)
      clear M6 b7 y0
      have hml : ((waysN op).map (fv a)).length = (waysN op).length := List.length_map _
      rw [hml] at hm1
      rw [hml]
      have hm8 : (waysN op).length <= 8 := Nat.le_trans hm1 hm2
      clear P4 M4 K4 x0 x1 x2 x3 x4 x5 x6 x7 p0 p1 p2 p3 p4 hc4 hmb hmb2 hop' hop2 hop3 hml hm3
      go_wp2_with fail
      go_loopw [50] (fun i wr => ∃ (k : Nat) (x' : Ins) (l' : List Tok), i = .int .i64 k /\ k <= (waysN op).length /\ Mid w a c L E n x' l' wr /\ Hid (wr.heap[g]? = some (.cells cs 152 fz)) /\ Hid (instrP E l = runW E ((waysN op).drop k) x' l')) (fun i _ => (waysN op).length - (intOf i).toNat)
      case atStart => exact ⟨0, _, _, rfl, Nat.zero_le _, M7.out, HG, HPg⟩
      case round =>
        obtain ⟨k, x', l', rfl, hk, M8, HG8, HP8⟩ := hrel
        have M8 := hide M8
        by_cases hlk : k < (waysN op).length
        . obtain ⟨kk, hkk⟩ : ∃ kk, (waysN op)[k]? = some kk := ⟨_, List.getElem?_eq_getElem hlk⟩
          have hr := waysN_range op hor' kk (List.mem_of_getElem? hkk)
          have hcell : wr.cell? ⟨g, k, none⟩ = some (.func (Fn.func kk) #[.pointer (some ⟨a, 0, none⟩)] #[]) := by
            simp only [World.cell?, HG8.out]
            exact hcs.out k _ (by rw [List.getElem?_map, hkk]; rfl)
          have HP9 := hide (HP8.out.trans (run_drop hkk))
          have hlk' : (k : Int) < (waysN op).length := by omega
          have hlk2 : k < cap := by omega
          have hcf := enter_way kk hr
          go_wp2_with fail
          refine (way_any kk hr _ M8.out.1 M8.out.2.1 M8.out.2.2.2.2.1 h2 M8.out.2.2.2.2.2.1).mono ?_; rintro e w8 ⟨k8, ⟨x8, l8, hx, rfl, r8, i8⟩ | ⟨er, hx, rfl⟩⟩ <;> replace hx := hide hx
          . have hb8 := Nat.le_trans (wayW_bulk hx.out) M8.out.2.2.2.2.2.1
            have M9 := hide (M8.out.stepped k8 r8 i8 hb8)
            have HG9 := hide (k8.1.2 _ _ _ HG8.out)
            have HP10 := hide (HP9.out.trans (by rw [hx.out]; first | done | rfl))
            clear k8 r8 i8
            go_wp2_with fail
            go_roundw
            case rel => exact ⟨k + 1, x8, l8, by go_num, by omega, M9.out, HG9, HP10⟩
            case measure => simp [intOf]; omega
          . have HP10 := hide (HP9.out.trans (by rw [hx.out]; rfl : _ = Except.error er))
            have K9 := hide (M8.out.2.2.2.1.trans (k8.mono (Nat.le_succ _)))
            unfold thrown
            go_wp2_with fail
            exact bodyPost_thrown ⟨K9.out, .inr ⟨er, HP10.out, rfl⟩⟩
        . have hk2 : k = (waysN op).length := by omega
          have HPd : Hid (instrP E l = .ok (x', l')) := hide (HP8.out.trans (by rw [hk2, List.drop_length]; rfl))
          obtain ⟨va', vt', HC, HZ, o1, o2, o3⟩ := M8.out.2.1.cells
          obtain ⟨aoA, mA, cA, rfl⟩ := own_slice o1
          obtain ⟨aoT, mT, cT, rfl⟩ := own_slice o2
          have y0 := HC 0 _ rfl
          have y1 := HC 1 _ rfl
          have y2 := HC 2 _ rfl
          have y3 := HC 3 _ rfl
          have y4 := HC 4 _ rfl
          have y5 := HC 5 _ rfl
          have y6 := HC 6 _ rfl
          have y7 := HC 7 _ rfl
          have hS := M8.out.2.2.1
          obtain ⟨o3a, o3b⟩ := o3 w.heap.size ⟨_, _, hS⟩
          have hS := hide hS
          have o1 := hide o1
          have o2 := hide o2
          clear HC HZ o3
          have hres : RES8 w.heap.size wr := res8 hS.out
          obtain ⟨s0, s1, s2, s3, s4, s5, s6, s7, f0, f1, f2, f3, f4, f5, f6, f7⟩ := hres
          have hcn : c ≠ w.heap.size := by have := M8.out.lt; omega
          have FF := hide (((((((((Far.refl w.heap.size wr).set 0 (.int .i64 x'.1)).set 1 (.int .i64 x'.2.1)).set 2 (.int .i64 x'.2.2.1)).set 3 (.int .i64 x'.2.2.2.1)).set 4 (.slice aoA mA cA)).set 5 (.slice aoT mT cT)).set 6 (.string (bs x'.2.2.2.2.2.2.1))).set 7 (.int .i64 x'.2.2.2.2.2.2.2))
          have KK := hide (M8.out.2.2.2.1.trans (FF.out.kp (B := w.heap.size) (a := a) (Nat.le_refl _) (by omega) (fun cs fz hc => by rw [hS.out] at hc; simp at hc)))
          have RR := hide (FF.out.rdr (HR0.out.lower M8.out.2.2.2.1 M8.out.1) hBw)
          have OO := hide (⟨own_base (FF.out.own o1.out o3a) (Nat.le_succ _), own_base (FF.out.own o2.out o3b) (Nat.le_succ _)⟩ : _ /\ _)
          go_wp2_with fail
          exact bodyPost_ret (v := .agg (insCells x' (.slice aoA mA cA) (.slice aoT mT cT)).toArray) (by simp [results, Tryz.results125, go_sem, insCells, s0, s1, s2, s3, s4, s5, s6, s7]) rfl ⟨KK.out, .inl ⟨x', l', _, HPd.out, rfl, ⟨_, _, rfl, OO.out.1, OO.out.2⟩, RR.out⟩⟩
  . -- the word does not fit
    have HPz := hide (HP.out.trans (instrQ_bad ho.out hop hmk (by rw [<- hbi.out]; simp [hm])))
    have hmb : (mk == 0) = false := by simpa using hm
    have hmb2 : (mk != 0) = true := by simpa using hm
    replace hm := hide hm
    go_wp2_with fail
    go_region_with ((first
      | (go_at_call 31; refine (makes_as op ty mk _ _ _ _ _ _ _ (M4.out.2.2.2.2.1.below (below_drew w4)).2 hmk).mono ?_; rintro e w5 ⟨rfl, b5⟩; obtain ⟨q0, q1, q2, q3, q4⟩ := P4.out.below (Below.undrew b5))
      | (go_at_call 101; refine (need_no _ _ _ _).mono ?_; rintro e w6 ⟨rfl, b6⟩; refine step_done (P := Tryz.prog) (by exact bodyPost_thrown ⟨K4.out.trans (Kp.of_belowW (below_step (Below.undrew b5) b6) K4.out.size), .inr ⟨_, HPz.out, rfl⟩⟩) ?_)))
    all_goals trivial
end Go.Proofs.YtahhbckccdigoaaGreatDoor
namespace Go.Proofs.YtahhbckccdigoaaGreatDoor.G
theorem then_ok {α β : Type} {x : Except Er (α × List Tok)} {f : α -> Rd β} {y : β × List Tok} (h : andThen x f = .ok y) : ∃ v q, x = .ok (v, q) /\ f v q = .ok y := by
  cases x with
  | error e => cases h
  | ok p => exact ⟨p.1, p.2, rfl, h⟩
theorem tail_len {l : List Tok} {f : Nat} (h : l.length < f + 1) (hl : l ≠ []) : l.tail.length < f := by
  cases l with
  | nil => exact absurd rfl hl
  | cons t r => simp at *; omega
section
variable {d : Int} {m : List Tok} {E E' : Int} {num : List UInt8 -> Int × Int} {idx : List UInt8 -> Int -> Option Int} {nam : List UInt8 -> Bool} {shp : List UInt8 -> Int} {tks : Int -> Nat} {fnd : List UInt8 -> Int × Int} {mks : Int -> Int -> Int} {prt : Nat -> List UInt8 -> Bool}
theorem taken_sh {l : List Tok} (h : l.tail ≠ []) : taken (sh d l ++ m) = taken l := by
  unfold taken; rw [peek0_sh (ne_of_tail h), peek1_sh h]
theorem taken_not {l : List Tok} (hl : l ≠ []) (h : taken l = false) : taken (sh d l ++ m) = false := by
  by_cases ht : l.tail = []
  . match l, hl, ht with
    | [x], _, _ =>
      have h1 : (x.1.head? == some 37 && ([] : List UInt8) != [61]) = false := h
      have h2 : (x.1.head? == some 37) = false := by simpa using h1
      show (x.1.head? == some 37 && peek1 (sh d [x] ++ m) != [61]) = false
      rw [h2]; rfl
  . rw [taken_sh ht]; exact h
theorem paired_sh {l : List Tok} (h : l.tail ≠ []) : paired (sh d l ++ m) = paired l := by
  unfold paired; rw [peek0_sh (ne_of_tail h), peek1_sh h]
theorem paired_not {l : List Tok} (hl : l ≠ []) (h : paired l = false) : paired (sh d l ++ m) = false := by
  by_cases ht : l.tail = []
  . match l, hl, ht with
    | [x], _, _ =>
      have h1 : (x.1.head? == some 98 && x.1 != [98, 114] && ([] : List UInt8) != [58]) = false := h
      have h2 : (x.1.head? == some 98 && x.1 != [98, 114]) = false := by simpa using h1
      show (x.1.head? == some 98 && x.1 != [98, 114] && peek1 (sh d [x] ++ m) != [58]) = false
      rw [h2]; rfl
  . rw [paired_sh ht]; exact h
theorem valuesW_sim : ∀ f f' acc l v r, f <= f' -> l.length < f -> valuesW idx E f acc l = .ok (v, r) -> r <:+ l /\ (r ≠ [] -> valuesW idx E' f' acc (sh d l ++ m) = .ok (v, sh d r ++ m)) := by
  intro f
  induction f with
  | zero => intro f' acc l v r _ h; omega
  | succ f ih =>
    intro f' acc l v r hf hl h
    obtain ⟨f', rfl⟩ : ∃ k, f' = k + 1 := ⟨f' - 1, by omega⟩
    simp only [valuesW] at h ⊢
    cases ht : taken l with
    | true =>
      rw [ht, if_pos rfl] at h
      obtain ⟨u, q, h1, h2⟩ := then_ok h
      obtain ⟨hne, hq, _⟩ := value_ok h1
      subst hq
      obtain ⟨s, c⟩ := ih f' (acc ++ [u]) l.tail v r (by omega) (tail_len hl hne) h2
      refine ⟨s.trans (List.tail_suffix l), fun hr => ?_⟩
      have hq := ne_of_suffix s hr
      rw [taken_sh hq, ht, if_pos rfl, (value_sim (E := E) (E' := E') l u l.tail h1).2 hq]
      exact c hr
    | false =>
      rw [ht, if_neg (by simp)] at h
      cases h
      refine ⟨List.suffix_refl _, fun hr => ?_⟩
      rw [taken_not hr ht, if_neg (by simp)]
theorem values_sim : Sim d m id (values idx E) (values idx E') := by
  intro l v r h
  exact valuesW_sim (E' := E') (l.length + 1) ((sh d l ++ m).length + 1) [] l v r (by simp [sh]) (by omega) h
theorem valuesN_sim : ∀ n acc, Sim d m id (valuesN idx E n acc) (valuesN idx E' n acc) := by
  intro n
  induction n with
  | zero => intro acc; exact Sim.done rfl
  | succ n ih => intro acc; exact Sim.then value_sim (fun v => ih (acc ++ [v]))
theorem phiW_sim : ∀ f f' to args l v r, f <= f' -> l.length < f -> phiW idx E f to args l = .ok (v, r) -> r <:+ l /\ (r ≠ [] -> phiW idx E' f' to args (sh d l ++ m) = .ok (v, sh d r ++ m)) := by
  intro f
  induction f with
  | zero => intro f' to args l v r _ h; omega
  | succ f ih =>
    intro f' to args l v r hf hl h
    obtain ⟨f', rfl⟩ : ∃ k, f' = k + 1 := ⟨f' - 1, by omega⟩
    simp only [phiW] at h ⊢
    by_cases hc : to = [] \/ paired l = true
    . rw [if_pos hc] at h
      obtain ⟨b, q, h1, h2⟩ := then_ok h
      obtain ⟨hne, hq, _⟩ := label_ok h1
      subst hq
      obtain ⟨u, q, h3, h4⟩ := then_ok h2
      obtain ⟨hne2, hq, _⟩ := value_ok h3
      subst hq
      obtain ⟨s, c⟩ := ih f' (to ++ [b]) (args ++ [u]) l.tail.tail v r (by omega) (Nat.lt_of_le_of_lt (by simp) (tail_len hl hne)) h4
      refine ⟨(s.trans (List.tail_suffix _)).trans (List.tail_suffix l), fun hr => ?_⟩
      have hq := ne_of_suffix s hr
      rw [paired_sh hne2, if_pos hc, (label_sim (E := E) (E' := E') l b l.tail h1).2 hne2]
      show andThen (value idx E' (sh d l.tail ++ m)) _ = _
      rw [(value_sim (E := E) (E' := E') l.tail u l.tail.tail h3).2 hq]
      exact c hr
    . rw [if_neg hc] at h
      cases h
      refine ⟨List.suffix_refl _, fun hr => ?_⟩
      have h1 : ¬ to = [] := fun e => hc (.inl e)
      have h2 : paired l = false := by
        cases e : paired l with
        | true => exact absurd (.inr e) hc
        | false => rfl
      rw [if_neg (by rw [paired_not hr h2]; simp [h1])]
theorem phi_sim : Sim d m id (phi idx E) (phi idx E') := by
  intro l v r h
  exact phiW_sim (E' := E') (l.length + 1) ((sh d l ++ m).length + 1) [] [] l v r (by simp [sh]) (by omega) h
theorem ret1_sim : Sim d m id (ret1 idx E) (ret1 idx E') := by
  intro l v r h
  simp only [ret1] at h ⊢
  cases ht : taken l with
  | true =>
    rw [ht, if_pos rfl] at h
    obtain ⟨s, c⟩ := Sim.then (k := id) (G := fun v => done ((0, [v], [], []) : Opd)) (G' := fun v => done ((0, [v], [], []) : Opd)) (value_sim (d := d) (m := m) (E := E) (E' := E') (idx := idx)) (fun v => Sim.done rfl) l v r h
    obtain ⟨u, q, h1, h2⟩ := then_ok h
    obtain ⟨hne, hq, _⟩ := value_ok h1
    subst hq
    refine ⟨s, fun hr => ?_⟩
    have : l.tail ≠ [] := by cases h2; exact hr
    rw [taken_sh this, ht, if_pos rfl]
    exact c hr
  | false =>
    rw [ht, if_neg (by simp)] at h
    cases h
    refine ⟨List.suffix_refl _, fun hr => ?_⟩
    rw [taken_not hr ht, if_neg (by simp)]; rfl
theorem spot_sim : Sim d m id (spot idx E) (spot idx E') := by
  intro l v r h
  simp only [spot] at h ⊢
  by_cases hc : (peek0 l).head? = some 64
  . rw [if_pos hc] at h
    obtain ⟨hne, hq, _⟩ := index_ok h
    obtain ⟨s, c⟩ := index_sim (d := d) (m := m) (E := E) (E' := E') l v r h
    refine ⟨s, fun hr => ?_⟩
    rw [peek0_sh hne, if_pos hc]
    exact c hr
  . rw [if_neg hc] at h
    cases h
    refine ⟨List.suffix_refl _, fun hr => ?_⟩
    rw [peek0_sh hr, if_neg hc]; rfl
theorem operands_sim (hn : nam [] = false) (hnum : (num []).2 ≠ 0) (hshp : shp [] ≠ 0) (op : Int) : Sim d m id (operands num idx nam shp tks E op) (operands num idx nam shp tks E' op) := by
  unfold operands
  by_cases h : op = 1
  . simp only [h, if_true]; exact Sim.then (anyNum_sim hnum) (fun _ => Sim.done rfl)
  simp only [h, if_false]; clear h
  by_cases h : op = 29
  . simp only [h, if_true]; exact Sim.then (number_sim hnum) (fun _ => Sim.done rfl)
  simp only [h, if_false]; clear h
  by_cases h : op = 10
  . simp only [h, if_true]; exact Sim.then (shaped_sim hshp) (fun _ => Sim.done rfl)
  simp only [h, if_false]; clear h
  by_cases h : op = 20
  . simp only [h, if_true]; exact Sim.then phi_sim (fun _ => Sim.done rfl)
  simp only [h, if_false]; clear h
  by_cases h : op = 21
  . simp only [h, if_true]; exact Sim.then spot_sim (fun _ => Sim.then (name_sim hn) (fun _ => Sim.then values_sim (fun _ => Sim.done rfl)))
  simp only [h, if_false]; clear h
  by_cases h : op = 28
  . simp only [h, if_true]; exact ret1_sim
  simp only [h, if_false]; clear h
  by_cases h : op = 11 \/ op = 12 \/ op = 15
  . simp only [h, if_true]; exact Sim.then value_sim (fun _ => Sim.then (number_sim hnum) (fun _ => Sim.done rfl))
  simp only [h, if_false]; clear h
  by_cases h : op = 13 \/ op = 14
  . simp only [h, if_true]; exact Sim.then value_sim (fun _ => Sim.then (number_sim hnum) (fun _ => Sim.then value_sim (fun _ => Sim.done rfl)))
  simp only [h, if_false]; clear h
  by_cases h : op = 23
  . simp only [h, if_true]; exact Sim.then (number_sim hnum) (fun _ => Sim.done rfl)
  simp only [h, if_false]; clear h
  by_cases h : op = 24
  . simp only [h, if_true]; exact Sim.then value_sim (fun _ => Sim.then (number_sim hnum) (fun _ => Sim.done rfl))
  simp only [h, if_false]; clear h
  by_cases h : op = 26
  . simp only [h, if_true]; exact Sim.then label_sim (fun _ => Sim.done rfl)
  simp only [h, if_false]; clear h
  by_cases h : op = 27
  . simp only [h, if_true]; exact Sim.then value_sim (fun _ => Sim.then label_sim (fun _ => Sim.then label_sim (fun _ => Sim.done rfl)))
  simp only [h, if_false]; clear h
  exact Sim.then (valuesN_sim _ _) (fun _ => Sim.done rfl)
end
section
variable {d : Int} {m : List Tok} {E E' : Int} {num : List UInt8 -> Int × Int} {idx : List UInt8 -> Int -> Option Int} {nam : List UInt8 -> Bool} {shp : List UInt8 -> Int} {tks : Int -> Nat} {fnd : List UInt8 -> Int × Int} {mks : Int -> Int -> Int} {prt : Nat -> List UInt8 -> Bool}
theorem opword_ok {i : Int} {o : Int × Int} {l r : List Tok} (hf : (fnd []).1 = 0) (h : opword fnd mks E i l = .ok (o, r)) : l ≠ [] /\ r = l.tail /\ o = fnd (peek0 l) /\ o.1 ≠ 0 /\ decide (mks o.1 o.2 ≠ 0) = decide (0 <= i) := by
  obtain ⟨h1, h2, h3⟩ := one_ok (by simp [hf]) h
  split at h3
  . cases h3
  . rename_i hc
    cases h3
    exact ⟨h1, h2, rfl, fun e => hc (.inl e), by
      by_cases e : decide (mks (fnd (peek0 l)).1 (fnd (peek0 l)).2 ≠ 0) = decide (0 <= i)
      . exact e
      . exact absurd (.inr e) hc⟩
theorem want_ok {w : List UInt8} (hw : w ≠ []) {u : Unit} {l r : List Tok} (h : want E w l = .ok (u, r)) : l ≠ [] /\ r = l.tail /\ peek0 l = w := by
  obtain ⟨h1, h2, h3⟩ := one_ok (want_none hw) h
  refine ⟨h1, h2, ?_⟩
  by_cases e : peek0 l = w
  . exact e
  . rw [if_neg e] at h3; cases h3
theorem ident_cases {i : Int} {l r : List Tok} (h : ident idx E l = .ok (i, r)) :
    (peek1 l = [61] /\ l ≠ [] /\ mark idx 37 1048576 (peek0 l) = some i /\ l.tail ≠ [] /\ r = l.tail.tail /\ value idx E l = .ok (i, l.tail) /\ want E [61] l.tail = .ok ((), l.tail.tail)) \/ (peek1 l ≠ [61] /\ i = -1 /\ r = l) := by
  unfold ident at h
  by_cases hc : peek1 l = [61]
  . rw [if_pos hc] at h
    obtain ⟨v, q, h1, h2⟩ := then_ok h
    obtain ⟨hl, hq, hv⟩ := value_ok h1
    subst hq
    obtain ⟨u, q, h3, h4⟩ := then_ok h2
    obtain ⟨hl2, hq, _⟩ := want_ok (by simp) h3
    subst hq
    cases h4
    exact .inl ⟨hc, hl, hv, hl2, rfl, h1, h3⟩
  . rw [if_neg hc] at h
    cases h
    exact .inr ⟨hc, rfl, rfl⟩
theorem start_eats (hf : (fnd []).1 = 0) : Eats (start idx fnd mks E) := by
  intro l v r h
  obtain ⟨i, q, h1, h2⟩ := then_ok h
  obtain ⟨o, q2, h3, h4⟩ := then_ok h2
  obtain ⟨hq, hq2, _⟩ := opword_ok hf h3
  subst hq2
  cases h4
  rcases ident_cases h1 with ⟨_, hl, _, _, rfl, _⟩ | ⟨_, _, rfl⟩
  . exact ⟨hl, (List.tail_suffix _).trans (List.tail_suffix _)⟩
  . exact ⟨hq, List.suffix_refl _⟩
theorem instr_eats (hn : nam [] = false) (hnum : (num []).2 ≠ 0) (hshp : shp [] ≠ 0) (hf : (fnd []).1 = 0) : Eats (instr num idx nam shp tks fnd mks E) := by
  intro l v r h
  obtain ⟨x, q, h1, h2⟩ := then_ok h
  obtain ⟨hl, hs⟩ := start_eats hf l x q h1
  obtain ⟨y, q2, h3, h4⟩ := then_ok h2
  cases h4
  exact ⟨hl, ((operands_sim (d := 0) (m := []) (E' := E) hn hnum hshp x.2.1) q y r h3).1.trans hs⟩
theorem len_of {r l : List Tok} (hl : l ≠ []) (h : r <:+ l.tail) : r.length + 1 <= l.length := by
  have := h.length_le
  cases l with
  | nil => exact absurd rfl hl
  | cons t q => simp at *; omega
theorem head_ok {k : Nat} {u : Unit} {l r : List Tok} (h : head prt E k l = .ok (u, r)) : l ≠ [] /\ r = l.tail /\ k < 256 := by
  obtain ⟨h1, h2, h3⟩ := one_ok (by simp) h
  refine ⟨h1, h2, ?_⟩
  split at h3
  . cases h3
  . rename_i hc
    by_cases e : 256 <= k
    . exact absurd (.inl e) hc
    . omega
theorem parW_sim : ∀ f f' acc l v r, f <= f' -> l.length < f -> parW E f acc l = .ok (v, r) -> r <:+ l /\ (r ≠ [] -> parW E' f' acc (sh d l ++ m) = .ok (v, sh d r ++ m)) := by
  intro f
  induction f with
  | zero => intro f' acc l v r _ h; omega
  | succ f ih =>
    intro f' acc l v r hff hl h
    obtain ⟨f', rfl⟩ : ∃ k, f' = k + 1 := ⟨f' - 1, by omega⟩
    simp only [parW] at h ⊢
    by_cases hc : peek0 l = [41]
    . rw [if_pos hc] at h
      cases h
      exact ⟨List.suffix_refl _, fun hr => by rw [peek0_sh hr, if_pos hc]⟩
    . rw [if_neg hc] at h
      obtain ⟨t, q, h1, h2⟩ := then_ok h
      obtain ⟨hne, hs⟩ := param_eats l t q h1
      have hlen := len_of hne hs
      obtain ⟨s, c⟩ := ih f' (acc ++ [t]) q v r (by omega) (by omega) h2
      refine ⟨(s.trans hs).trans (List.tail_suffix l), fun hr => ?_⟩
      have hq := ne_of_suffix s hr
      rw [peek0_sh hne, if_neg hc, (param_sim (E := E) (E' := E') l t q h1).2 hq]
      exact c hr
theorem params_sim : Sim d m id (params E) (params E') := by
  intro l v r h
  exact parW_sim (E' := E') (l.length + 1) ((sh d l ++ m).length + 1) [] l v r (by simp [sh]) (by omega) h
end
end Go.Proofs.YtahhbckccdigoaaGreatDoor.G
