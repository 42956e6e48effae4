/- Layer 6: what is wrong has a code, and stands at a word or at the end. -/
import Derived.Test.YtkkkgennkhdfhaaDoorWk
import Derived.Test.YtkkkgennkhdfhaaDoorKeep
namespace Go.Proofs.YtkkkgennkhdfhaaDoor.G

section
variable {E : Int} {num : List UInt8 → Int × Int} {idx : List UInt8 → Int → Option Int} {nam : List UInt8 → Bool} {shp : List UInt8 → Int} {tks : Int → Nat} {fnd : List UInt8 → Int × Int} {mks : Int → Int → Int} {prt : Nat → List UInt8 → Bool} {l : List Tok}

/-- What is left stands at the end of the words; what is wrong has a code, and stands at one of them or at the end. -/
def Fit {α : Type} (E : Int) (l : List Tok) (x : Except Er (α × List Tok)) : Prop :=
  match x with
  | .ok p => p.2 <:+ l
  | .error e => e.1 ≠ 0 ∧ ∃ r, r <:+ l ∧ e.2 = atOf E r
theorem Fit.done {α : Type} (v : α) : Fit E l (G.done v l) := List.suffix_refl l
theorem Fit.ok {α : Type} (v : α) : Fit E l (.ok (v, l)) := List.suffix_refl l
theorem Fit.bad {α : Type} {c : Int} (h : c ≠ 0) : Fit (α := α) E l (.error (c, atOf E l)) := ⟨h, l, List.suffix_refl l, rfl⟩
theorem Fit.then {α β : Type} {x : Except Er (α × List Tok)} {f : α → Rd β} (h : Fit E l x) (k : ∀ v r, Fit E r (f v r)) : Fit E l (andThen x f) := by
  cases x with
  | error e => exact h
  | ok p =>
    obtain ⟨v, r⟩ := p
    have h : r <:+ l := h
    have k := k v r
    show Fit E l (f v r)
    cases e : f v r with
    | error y => rw [e] at k; exact ⟨k.1, k.2.choose, k.2.choose_spec.1.trans h, k.2.choose_spec.2⟩
    | ok q => rw [e] at k; exact List.IsSuffix.trans k h
theorem Fit.one {α : Type} {f : List UInt8 → Option α} {c : List UInt8 → Int} (h : ∀ s, f s = none → c s ≠ 0) : Fit E l (one f c E l) := by
  unfold G.one
  cases e : f (peek0 l) with
  | none => exact ⟨h _ e, l, List.suffix_refl l, rfl⟩
  | some v => exact List.tail_suffix l
theorem Fit.ite {α : Type} {c : Prop} [Decidable c] {x y : Except Er (α × List Tok)} (h : Fit E l x) (k : Fit E l y) : Fit E l (if c then x else y) := by
  by_cases e : c
  · rw [if_pos e]; exact h
  · rw [if_neg e]; exact k
theorem want_fit {w : List UInt8} : Fit E l (want E w l) := Fit.one fun _ _ => by simp
theorem name_fit : Fit E l (name nam E l) := Fit.one fun _ _ => by simp
theorem index_fit {sign : UInt8} {most c : Int} (h : c ≠ 0) : Fit E l (index idx sign most c E l) := Fit.one fun _ _ => h
theorem value_fit : Fit E l (value idx E l) := index_fit (by decide)
theorem label_fit : Fit E l (label idx E l) := index_fit (by decide)
theorem number_fit {lo hi : Int} : Fit E l (number num E lo hi l) := Fit.one fun s _ => by
  show (if (num s).2 ≠ 0 then (num s).2 else 18) ≠ 0
  split
  · assumption
  · decide
theorem anyNum_fit : Fit E l (anyNum num E l) := Fit.one fun s h => by
  by_cases e : (num s).2 ≠ 0
  · exact e
  · rw [if_neg e] at h; cases h
theorem shaped_fit : Fit E l (shaped shp E l) := Fit.one fun s h => by
  by_cases e : shp s ≠ 0
  · exact e
  · rw [if_neg e] at h; cases h
theorem valuesW_fit : ∀ f acc l, Fit E l (valuesW idx E f acc l) := by
  intro f
  induction f with
  | zero => intro acc l; exact Fit.ok _
  | succ f ih =>
    intro acc l
    simp only [valuesW]
    split
    · exact value_fit.then fun v r => ih _ _
    · exact Fit.ok _
theorem valuesN_fit : ∀ f acc l, Fit E l (valuesN idx E f acc l) := by
  intro f
  induction f with
  | zero => intro acc l; exact Fit.ok _
  | succ f ih => intro acc l; exact value_fit.then fun v r => ih _ _
theorem phiW_fit : ∀ f to args l, Fit E l (phiW idx E f to args l) := by
  intro f
  induction f with
  | zero => intro to args l; exact Fit.ok _
  | succ f ih =>
    intro to args l
    simp only [phiW]
    split
    · exact label_fit.then fun v r => value_fit.then fun u q => ih _ _ _
    · exact Fit.ok _
theorem ret1_fit : Fit E l (ret1 idx E l) := by
  unfold ret1
  split
  · exact value_fit.then fun v r => Fit.done _
  · exact Fit.ok _
theorem spot_fit : Fit E l (spot idx E l) := by
  unfold spot
  split
  · exact index_fit (by decide)
  · exact Fit.ok _
theorem ident_fit : Fit E l (ident idx E l) := by
  unfold ident
  split
  · exact value_fit.then fun v r => want_fit.then fun _ _ => Fit.done _
  · exact Fit.ok _
theorem operands_fit {op : Int} : Fit E l (operands num idx nam shp tks E op l) := by
  unfold operands
  refine Fit.ite (anyNum_fit.then fun _ _ => Fit.done _) ?_
  refine Fit.ite (number_fit.then fun _ _ => Fit.done _) ?_
  refine Fit.ite (shaped_fit.then fun _ _ => Fit.done _) ?_
  refine Fit.ite ((phiW_fit _ _ _ _).then fun _ _ => Fit.done _) ?_
  refine Fit.ite (spot_fit.then fun _ _ => name_fit.then fun _ _ => (valuesW_fit _ _ _).then fun _ _ => Fit.done _) ?_
  refine Fit.ite (ret1_fit) ?_
  refine Fit.ite (value_fit.then fun _ _ => number_fit.then fun _ _ => Fit.done _) ?_
  refine Fit.ite (value_fit.then fun _ _ => number_fit.then fun _ _ => value_fit.then fun _ _ => Fit.done _) ?_
  refine Fit.ite (number_fit.then fun _ _ => Fit.done _) ?_
  refine Fit.ite (value_fit.then fun _ _ => number_fit.then fun _ _ => Fit.done _) ?_
  refine Fit.ite (label_fit.then fun _ _ => Fit.done _) ?_
  refine Fit.ite (value_fit.then fun _ _ => label_fit.then fun _ _ => label_fit.then fun _ _ => Fit.done _) ?_
  exact (valuesN_fit _ _ _).then fun _ _ => Fit.done _
theorem opword_fit {i : Int} : Fit E l (opword fnd mks E i l) := Fit.one fun s _ => by
  show (if (fnd s).1 = 0 then (2 : Int) else 8) ≠ 0
  split <;> decide
theorem instr_fit : Fit E l (instr num idx nam shp tks fnd mks E l) := by
  refine Fit.then (ident_fit.then fun _ _ => opword_fit.then fun _ _ => Fit.done _) fun _ _ => operands_fit.then fun _ _ => Fit.done _
theorem insW_fit : ∀ f n acc l, Fit E l (insW num idx nam shp tks fnd mks E f n acc l) := by
  intro f
  induction f with
  | zero => intro n acc l; exact Fit.ok _
  | succ f ih =>
    intro n acc l
    simp only [insW]
    split
    · exact Fit.ok _
    · split
      · exact Fit.bad (by decide)
      · exact instr_fit.then fun _ _ => ih _ _ _
theorem head_fit {k : Nat} : Fit E l (head prt E k l) := Fit.one fun s _ => by
  show (if 256 ≤ k then (6 : Int) else 7) ≠ 0
  split <;> decide
theorem block_fit {k n : Nat} : Fit E l (block num idx nam shp tks fnd mks prt E k n l) := head_fit.then fun _ _ => want_fit.then fun _ _ => insW_fit _ _ _ _
theorem blkW_fit : ∀ f n acc l, Fit E l (blkW num idx nam shp tks fnd mks prt E f n acc l) := by
  intro f
  induction f with
  | zero => intro n acc l; exact Fit.ok _
  | succ f ih =>
    intro n acc l
    simp only [blkW]
    split
    · exact Fit.ok _
    · exact block_fit.then fun _ _ => ih _ _ _
theorem param_fit {k : Nat} : Fit E l (param E k l) := Fit.one fun s _ => by
  show (if kind s < 1 then (9 : Int) else 6) ≠ 0
  split <;> decide
theorem parW_fit : ∀ f acc l, Fit E l (parW E f acc l) := by
  intro f
  induction f with
  | zero => intro acc l; exact Fit.ok _
  | succ f ih =>
    intro acc l
    simp only [parW]
    split
    · exact Fit.ok _
    · exact param_fit.then fun _ _ => ih _ _
theorem answer_fit : Fit E l (answer E l) := Fit.one fun _ _ => by simp
theorem function_fit {n : Nat} : Fit E l (function num idx nam shp tks fnd mks prt E n l) :=
  want_fit.then fun _ _ => name_fit.then fun _ _ => want_fit.then fun _ _ => (parW_fit _ _ _).then fun _ _ => want_fit.then fun _ _ => answer_fit.then fun _ _ => want_fit.then fun _ _ => (blkW_fit _ _ _ _).then fun _ _ => want_fit.then fun _ _ => Fit.done _
theorem funW_fit : ∀ f n acc l, Fit E l (funW num idx nam shp tks fnd mks prt E f n acc l) := by
  intro f
  induction f with
  | zero => intro n acc l; exact Fit.ok _
  | succ f ih =>
    intro n acc l
    simp only [funW]
    split
    · exact Fit.ok _
    · split
      · exact Fit.bad (by decide)
      · exact function_fit.then fun _ _ => ih _ _ _
theorem program_fit : Fit E l (program num idx nam shp tks fnd mks prt E l) := funW_fit _ _ _ _
end
end Go.Proofs.YtkkkgennkhdfhaaDoor.G
namespace Go.Proofs.YtkkkgennkhdfhaaDoor
open Go Go.RowKit
open G (Tok Er Ins Fun peek0 peek1 atOf)

theorem toks_at {s : ByteArray} {ws : List (Nat × Nat)} (h : L2.words s = .inr ws) {t : Tok} (ht : t ∈ toks s ws) : 0 ≤ t.2 ∧ t.2 < s.size := by
  have hok := (L2.words_ok h).1
  simp only [toks, List.mem_map] at ht
  obtain ⟨q, hq, rfl⟩ := ht
  obtain ⟨i, hi, e⟩ := List.mem_iff_getElem.1 hq
  have := L2.okW_get ws 0 s.size i hok hi
  rw [show ws.getD i (0, 0) = q by rw [← e]; simp [hi]] at this
  show 0 ≤ (q.1 : Int) ∧ (q.1 : Int) < s.size
  omega
theorem text_err {s : ByteArray} {er : Er} (h : textG s = .error er) : er.1 ≠ 0 ∧ 0 ≤ er.2 ∧ er.2 ≤ s.size := by
  unfold textG at h
  cases hw : L2.words s with
  | inl x =>
    rw [hw] at h; cases h
    have := L2.words_err hw
    refine ⟨by show (1 : Int) ≠ 0; decide, ?_, ?_⟩
    · show (0 : Int) ≤ (x : Int); omega
    · show (x : Int) ≤ s.size; omega
  | inr ws =>
    rw [hw] at h
    replace h : (match progG (s.size : Int) (toks s ws) with | .ok ((xs, _), _) => .ok xs | .error er => .error er) = (.error er : Except Er (List Fun)) := h
    have hf : G.Fit (s.size : Int) (toks s ws) (progG (s.size : Int) (toks s ws)) := G.program_fit
    cases hp : progG (s.size : Int) (toks s ws) with
    | ok p => rw [hp] at h; cases h
    | error e2 =>
      rw [hp] at h hf; cases h
      obtain ⟨h1, r, h2, h3⟩ := hf
      refine ⟨h1, ?_⟩
      rw [h3]
      cases r with
      | nil => show 0 ≤ (s.size : Int) ∧ (s.size : Int) ≤ s.size; omega
      | cons t r =>
        have := toks_at hw (h2.subset (List.mem_cons_self ..))
        show 0 ≤ t.2 ∧ t.2 ≤ s.size
        omega
/-- How many instructions a function has. -/
def szF (x : Fun) : Nat := (x.2.2.2.1.map List.length).sum
/-- What an instruction keeps to. -/
def FineI (n : Nat) (x : Ins) : Prop := decide (mksF x.1 x.2.2.2.1 ≠ 0) = decide (0 ≤ x.2.1) ∧ x.2.1 ≤ 1048576 ∧ x.2.2.2.2.2.2.2 < n
def FineF (n : Nat) (x : Fun) : Prop := namF x.1 = true ∧ x.2.1.length ≤ 8 ∧ x.2.2.2.1.length ≤ 256 ∧ ∀ b ∈ x.2.2.2.1, ∀ i ∈ b, FineI n i
theorem text_fine {s : ByteArray} {xs : List Fun} (h : textG s = .ok xs) : xs.length ≤ 32 ∧ (∀ x ∈ xs, FineF s.size x) ∧ (xs.map szF).sum ≤ 4096 := by
  unfold textG at h
  cases hw : L2.words s with
  | inl x => rw [hw] at h; cases h
  | inr ws =>
    rw [hw] at h
    replace h : (match progG (s.size : Int) (toks s ws) with | .ok ((xs, _), _) => .ok xs | .error er => .error er) = (.ok xs : Except Er (List Fun)) := h
    cases hp : progG (s.size : Int) (toks s ws) with
    | error e2 => rw [hp] at h; cases h
    | ok p =>
      rw [hp] at h
      obtain ⟨⟨ys, n⟩, r⟩ := p
      cases h
      obtain ⟨a, b, c, d⟩ := G.program_good nam_nil num_nil shp_nil fnd_nil idx_le hp
      refine ⟨a, fun x hx => ?_, ?_⟩
      · obtain ⟨k1, k2, k3, k4, _⟩ := b x hx
        refine ⟨k1, k2, k3, fun bb hb i hi => ?_⟩
        obtain ⟨m1, m2, t, m3, m4⟩ := k4 bb hb i hi
        exact ⟨m1, m2, by rw [m4]; exact (toks_at hw m3).2⟩
      · have d : n = (xs.map szF).sum := d
        rw [← d]; exact c
theorem name_short {x : List UInt8} (h : namF x = true) : x.length ≤ 24 := by
  by_cases e : 24 < (bs x).size
  · have := L2.name_long e
    rw [bs_data] at this
    exact absurd (h.symm.trans this) (by simp)
  · rw [bs_size] at e; omega
end Go.Proofs.YtkkkgennkhdfhaaDoor
