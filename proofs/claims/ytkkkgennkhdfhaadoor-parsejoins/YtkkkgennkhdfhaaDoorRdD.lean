/- An instruction in memory; a value, and a label, is read into it. -/
import Derived.Test.YtkkkgennkhdfhaaDoorRdC
import Derived.Deep.RegionHeld3
import Derived.Deep.AppendLies
import Derived.Deep.DrawnRows
import Derived.Deep.RegionLaw
import Derived.Deep.RegionWith
namespace Go.Proofs.YtkkkgennkhdfhaaDoor
open Go Go.RowKit
open G (Tok Er Ins Fun peek0 peek1 atOf)

theorem Tryd.info3 : (Tryd.prog.info? 3).map (fun i => (i.zero, i.size, i.bytes)) = some (some (.int .i64 0), 1, 8) := by kernel_rfl
abbrev ints (l : List Int) : List Value := l.map (Value.int .i64)
/-- The cells of an instruction. -/
def insCells (x : Ins) (va vt : Value) : List Value := [.int .i64 x.1, .int .i64 x.2.1, .int .i64 x.2.2.1, .int .i64 x.2.2.2.1, va, vt, .string (bs x.2.2.2.2.2.2.1), .int .i64 x.2.2.2.2.2.2.2]
/-- The instruction x stands at block c, its lists at blocks from B on. -/
def InsAt (B c : Nat) (x : Ins) (w : World) : Prop :=
  ∃ va vt, w.heap[c]? = some (.cells (insCells x va vt).toArray 38 (0, 0)) ∧ w.ownsRow B 3 1 va x.2.2.2.2.1.length (ints x.2.2.2.2.1) ∧ w.ownsRow B 3 1 vt x.2.2.2.2.2.1.length (ints x.2.2.2.2.2.1) ∧
    (va.ownBlock = none ∨ va.ownBlock ≠ vt.ownBlock) ∧ B ≤ c
theorem InsAt.keep {B c : Nat} {x : Ins} {w w' : World} (h : InsAt B c x w) (hb : ∀ k, B ≤ k → k < w.heap.size → w'.heap[k]? = w.heap[k]?) : InsAt B c x w' := by
  obtain ⟨va, vt, h1, h2, h3, h4, h5⟩ := h
  have key : ∀ {v : Value} {n : Nat} {xs : List Value}, w.ownsRow B 3 1 v n xs → w'.ownsRow B 3 1 v n xs := by
    intro v n xs ho
    refine ⟨ho.1, ?_⟩
    rcases ho.2 with hn | ⟨g, cap, cur, hv2, hbb, hg, rest⟩
    · exact .inl hn
    · exact .inr ⟨g, cap, cur, hv2, hbb, (hb g hbb (Array.getElem?_eq_some_iff.1 hg).1).trans hg, rest⟩
  exact ⟨va, vt, (hb c h5 (Array.getElem?_eq_some_iff.1 h1).1).trans h1, key h2, key h3, h4, h5⟩
theorem InsAt.kp {B a c : Nat} {x : Ins} {w w' : World} (h : InsAt B c x w) (hk : Kp w.heap.size a w w') (ha : a < B) : InsAt B c x w' :=
  h.keep fun k h1 h2 => hk.2.2.2.2 k h2 (by omega)
theorem InsAt.step {B c : Nat} {x : Ins} {w w' : World} (h : InsAt B c x w) (hk : Below w.heap.size w w') : InsAt B c x w' := h.keep fun k _ h2 => hk.block k h2
theorem InsAt.not80 {B c : Nat} {x : Ins} {u w : World} (h : InsAt B c x w) : N80 u w c := .inr fun cs fz hc => by
  obtain ⟨va, vt, h1, _⟩ := h
  rw [h1] at hc
  simp at hc
theorem InsAt.far80 {B c : Nat} {x : Ins} {u w w' : World} {row : Option Nat} (h : InsAt B c x w) (hg : w.grownBy w' row) (hr : row ≠ some c) : N80 u w' c := .inr fun cs fz hc => by
  obtain ⟨va, vt, h1, _⟩ := h
  rw [hg.block c (Array.getElem?_eq_some_iff.1 h1).1 (fun e => hr e.symm), h1] at hc
  simp at hc
theorem InsAt.lt {B c : Nat} {x : Ins} {w : World} (h : InsAt B c x w) : c < w.heap.size ∧ B ≤ c := by
  obtain ⟨va, vt, h1, h2, h3, h4, h5⟩ := h
  exact ⟨(Array.getElem?_eq_some_iff.1 h1).1, h5⟩
/-- What a step of an instruction's reading answers. -/
def Step (B a c : Nat) (L : List Tok) (E : Int) (n : Nat) (r : Except Er (Ins × List Tok)) (w : World) (e : Ending) (w' : World) : Prop :=
  Kp B a w w' ∧ ((∃ x l', r = .ok (x, l') ∧ e = .returned (.tuple #[]) ∧ Rdr B a L E n l' w' ∧ InsAt B c x w') ∨ ∃ er : Er, r = .error er ∧ e = thrown er.1 er.2)
def addArg (x : Ins) (v : Int) : Ins := (x.1, x.2.1, x.2.2.1, x.2.2.2.1, x.2.2.2.2.1 ++ [v], x.2.2.2.2.2.1, x.2.2.2.2.2.2.1, x.2.2.2.2.2.2.2)
def addTo (x : Ins) (v : Int) : Ins := (x.1, x.2.1, x.2.2.1, x.2.2.2.1, x.2.2.2.2.1, x.2.2.2.2.2.1 ++ [v], x.2.2.2.2.2.2.1, x.2.2.2.2.2.2.2)
def setN (x : Ins) (v : Int) : Ins := (x.1, x.2.1, v, x.2.2.2.1, x.2.2.2.2.1, x.2.2.2.2.2.1, x.2.2.2.2.2.2.1, x.2.2.2.2.2.2.2)
def setName (x : Ins) (s : List UInt8) : Ins := (x.1, x.2.1, x.2.2.1, x.2.2.2.1, x.2.2.2.2.1, x.2.2.2.2.2.1, s, x.2.2.2.2.2.2.2)
/-- A word is read, and something becomes of it and of the instruction. -/
def byWord {α : Type} (x : Ins) (f : Ins → α → Ins) (r : Except Er (α × List Tok)) : Except Er (Ins × List Tok) := G.andThen r fun v l => .ok (f x v, l)

theorem valueOf_some {s : List UInt8} {p k : Int} {w : World} (hs : s.length ≤ 65536) (h : G.mark idxF 37 1048576 s = some k) : Calls Tryd.prog 47 #[.agg #[.string (bs s), .int .i64 p]] w fun e w' => e = .returned (.int .i64 k) ∧ Below w.heap.size w w' :=
  (valueOf_any s p w hs).mono fun e w' ⟨hb, hh⟩ => by
    rcases hh with ⟨x, hx, rfl⟩ | ⟨hx, _⟩
    · rw [h] at hx; cases hx; exact ⟨rfl, hb⟩
    · rw [h] at hx; cases hx
theorem valueOf_none {s : List UInt8} {p : Int} {w : World} (hs : s.length ≤ 65536) (h : G.mark idxF 37 1048576 s = none) : Calls Tryd.prog 47 #[.agg #[.string (bs s), .int .i64 p]] w fun e w' => e = thrown 8 p ∧ Below w.heap.size w w' :=
  (valueOf_any s p w hs).mono fun e w' ⟨hb, hh⟩ => by
    rcases hh with ⟨x, hx, _⟩ | ⟨_, rfl⟩
    · rw [h] at hx; cases hx
    · exact ⟨rfl, hb⟩
theorem Kp.cell {B a : Nat} {w w' : World} (h : Kp B a w w') {p : Addr} (hp : p.block < B) (ha : p.block ≠ a) : w'.cell? p = w.cell? p := World.cell?_of_block (w := w) (h.2.2.2.2 _ hp ha)

theorem Kp.frozen {B a : Nat} {w w' : World} (h : Kp B a w w') {p : Addr} (hp : p.block < B) (ha : p.block ≠ a) : w'.frozen? p = w.frozen? p := World.frozen?_of_block (w := w) (h.2.2.2.2 _ hp ha)
/-- A cell that may be written. -/
def Cel (w : World) (c i : Nat) (v : Value) : Prop := w.cell? ⟨c, i, none⟩ = some v ∧ w.frozen? ⟨c, i, none⟩ = false
theorem Cel.kp {B a : Nat} {w w' : World} (k : Kp B a w w') {c i : Nat} {v : Value} (hp : c < B) (ha : c ≠ a) (h1 : w.cell? ⟨c, i, none⟩ = some v) (h2 : w.frozen? ⟨c, i, none⟩ = false) : w'.cell? ⟨c, i, none⟩ = some v ∧ w'.frozen? ⟨c, i, none⟩ = false :=
  ⟨(k.cell (p := ⟨c, i, none⟩) hp ha).trans h1, (k.frozen (p := ⟨c, i, none⟩) hp ha).trans h2⟩
theorem Cel.below {B : Nat} {w w' : World} (k : Below B w w') {c i : Nat} {v : Value} (hp : c < B) (h1 : w.cell? ⟨c, i, none⟩ = some v) (h2 : w.frozen? ⟨c, i, none⟩ = false) : w'.cell? ⟨c, i, none⟩ = some v ∧ w'.frozen? ⟨c, i, none⟩ = false :=
  ⟨(k.cell (p := ⟨c, i, none⟩) hp).trans h1, (k.frozen (p := ⟨c, i, none⟩) hp).trans h2⟩
theorem Cel.grown {w w' : World} {row : Option Nat} (k : w.grownBy w' row) {c i : Nat} {v : Value} (hp : c < w.heap.size) (hr : row ≠ some c) (h1 : w.cell? ⟨c, i, none⟩ = some v) (h2 : w.frozen? ⟨c, i, none⟩ = false) : w'.cell? ⟨c, i, none⟩ = some v ∧ w'.frozen? ⟨c, i, none⟩ = false :=
  ⟨(k.cell_far ⟨c, i, none⟩ hp (Ne.symm hr)).trans h1, (k.frozen_far ⟨c, i, none⟩ hp (Ne.symm hr)).trans h2⟩
theorem Rdr.drew {B a : Nat} {L : List Tok} {E : Int} {n : Nat} {l : List Tok} {w : World} (h : Rdr B a L E n l w) : Rdr B a L E n l w.drew := h
theorem InsAt.drew {B c : Nat} {x : Ins} {w : World} (h : InsAt B c x w) : InsAt B c x w.drew := h
theorem Kp.undrew {B a : Nat} {w w' : World} (h : Kp B a w.drew w') : Kp B a w w' := h
theorem one_cell {w1 : World} {a : Value} {t : TypeId} : ∀ j u, [a][j]? = some u → (w1.alloc (.cells #[a] t)).cell? ((⟨w1.heap.size, 0, none⟩ : Addr).add j) = some u := by
  intro j u hj
  match j, hj with
  | 0, hj => simp at hj; subst hj; simp [Addr.add]
theorem one_one {a : Int} : ∀ u ∈ [Value.int .i64 a], u.oneCell' = true := by
  intro u hu
  simp only [List.mem_singleton] at hu
  subst hu; rfl
theorem Kp.andBelow {a : Nat} {w w1 w2 : World} (h : Kp w.heap.size a w w1) (hb : Below w1.heap.size w1 w2) : Kp w.heap.size a w w2 := h.trans (Kp.of_belowW hb h.size)
theorem bodyPost_end0' {P : Program} {fn : Func} {R : Ending → World → Prop} {t : Array Value} {d : List Deferred} {w : World} (hr : fn.results = #[]) (hd : d = []) (hR : R (.returned (.tuple #[])) w) : bodyPost P fn R .normal { tmps := t, defers := d } w :=
  bodyPost_end (results_none hr _ _ _) hd hR
theorem step_done {P : Program} {Q : Prop} (h : Q) : wpAny P .any #[] (fun _ _ _ => True) 0 #[] { tmps := #[], defers := [] } default → Q := fun _ => h
set_option maxRecDepth 20000 in
theorem value_none {B a c : Nat} {L : List Tok} {E : Int} {n : Nat} {l : List Tok} {x : Ins} (w : World) (h : Rdr B a L E n l w) (hi : InsAt B c x w) (hk : G.mark idxF 37 1048576 (peek0 l) = none) :
    Calls Tryd.prog 57 #[.pointer (some ⟨a, 0, none⟩), .pointer (some ⟨c, 0, none⟩)] w fun e w' => e = thrown 8 (atOf E l) ∧ Kp B a w w' := by
  obtain ⟨va, vt, h1, h2, h3, h4, h5⟩ := hi
  have c4 : w.cell? ⟨c, 4, none⟩ = some va := by simp [World.cell?, h1, insCells]
  have z4 : w.frozen? ⟨c, 4, none⟩ = false := by simp [World.frozen?, h1]
  have hsh := h.short
  have H := hide h
  have hcl : c < w.heap.size := (Array.getElem?_eq_some_iff.1 h1).1
  have ha := h.suffix.2.2.2
  have hac : c ≠ a := by omega
  have hBw := h.size
  clear h h1 h3
  go_enter Tryd.func57, Tryd.ntmps57
  go_wp2_with fail
  go_region_with ((first
      | (go_at_call 38; refine (take_any _ H.out.drew).mono ?_; rintro e w1 ⟨rfl, k1, r1⟩; have s1 : w.heap.size ≤ w1.heap.size := k1.size; have hcl1 : c < w1.heap.size := Nat.lt_of_lt_of_le hcl s1; obtain ⟨c41, z41⟩ := Cel.kp k1 hcl hac c4 z4)
      | (go_at_call 47; refine (valueOf_none hsh hk).mono ?_; rintro e w2 ⟨rfl, b2⟩; go_loud (refine step_done (P := Tryd.prog) (by exact bodyPost_thrown ⟨rfl, (k1.undrew.andBelow b2).mono hBw⟩) ?_))))
  all_goals trivial
theorem own_setCell {w : World} {b e s n : Nat} {v : Value} {xs : List Value} (h : w.ownsRow b e s v n xs) {p : Addr} (hp : v.ownBlock ≠ some p.block) (u : Value) : (w.setCell p u).ownsRow b e s v n xs := by
  refine ⟨h.1, ?_⟩
  rcases h.2 with hn | ⟨g, cap, cur, hv2, hbb, hg, rest⟩
  · exact .inl hn
  · refine .inr ⟨g, cap, cur, hv2, hbb, ?_, rest⟩
    rw [Below.heap_setCell _ _ _ _ (fun e => hp (by rw [hv2, ← e]; rfl))]
    exact hg
theorem InsAt.arg {B c gg cap : Nat} {x : Ins} {k : Int} {va : Value} {w w3 : World} (h : InsAt B c x w) (hc : w.cell? ⟨c, 4, none⟩ = some va)
    (hown : w3.ownsRow B 3 1 (.slice (some ⟨gg, 0, none⟩) (x.2.2.2.2.1.length + 1) cap) (x.2.2.2.2.1.length + 1) (ints x.2.2.2.2.1 ++ [.int .i64 k])) (hg : w.grownBy w3 va.ownBlock) (hat : va.ownBlock = some gg ∨ gg = w.heap.size) :
    InsAt B c (addArg x k) (w3.setCell ⟨c, 4, none⟩ (.slice (some ⟨gg, 0, none⟩) (x.2.2.2.2.1.length + 1) cap)) := by
  obtain ⟨va', vt, h1, h2, h3, h4, h5⟩ := h
  have e : va' = va := by
    have : w.cell? ⟨c, 4, none⟩ = some va' := by simp [World.cell?, h1, insCells]
    rw [hc] at this; exact (Option.some.inj this).symm
  subst e
  have hcl : c < w.heap.size := (Array.getElem?_eq_some_iff.1 h1).1
  have n1 : va'.ownBlock ≠ some c := own_ne h2 h1 (by decide)
  have n2 : vt.ownBlock ≠ some c := own_ne h3 h1 (by decide)
  have h1' : w3.heap[c]? = some (.cells (insCells x va' vt).toArray 38 (0, 0)) := (hg.block c hcl (fun e => n1 e.symm)).trans h1
  have h3' : w3.ownsRow B 3 1 vt x.2.2.2.2.2.1.length (ints x.2.2.2.2.2.1) := h3.kept hg (by
    rcases h4 with h4 | h4
    · rw [h4]; cases vt.ownBlock <;> simp
    · exact .inr (Ne.symm h4))
  have n3 : (Value.slice (some ⟨gg, 0, none⟩) (x.2.2.2.2.1.length + 1) cap).ownBlock ≠ some c := own_ne hown h1' (by decide)
  refine ⟨_, vt, (heap_setCell_same w3 c 4 _ 38 _ h1').trans rfl, ?_, own_setCell h3' n2 _, ?_, h5⟩
  · have := own_setCell hown (p := ⟨c, 4, none⟩) n3 (.slice (some ⟨gg, 0, none⟩) (x.2.2.2.2.1.length + 1) cap)
    simpa [addArg] using this
  · refine .inr fun e => ?_
    have e : some gg = vt.ownBlock := e
    rcases hat with hat | hat
    · rcases h4 with h4 | h4
      · rw [h4] at hat; cases hat
      · exact h4 (hat.trans e)
    · have := (h3.lt gg e.symm).2
      omega
theorem InsAt.to {B c gg cap : Nat} {x : Ins} {k : Int} {vt : Value} {w w3 : World} (h : InsAt B c x w) (hc : w.cell? ⟨c, 5, none⟩ = some vt)
    (hown : w3.ownsRow B 3 1 (.slice (some ⟨gg, 0, none⟩) (x.2.2.2.2.2.1.length + 1) cap) (x.2.2.2.2.2.1.length + 1) (ints x.2.2.2.2.2.1 ++ [.int .i64 k])) (hg : w.grownBy w3 vt.ownBlock) (hat : vt.ownBlock = some gg ∨ gg = w.heap.size) :
    InsAt B c (addTo x k) (w3.setCell ⟨c, 5, none⟩ (.slice (some ⟨gg, 0, none⟩) (x.2.2.2.2.2.1.length + 1) cap)) := by
  obtain ⟨va, vt', h1, h2, h3, h4, h5⟩ := h
  have e : vt' = vt := by
    have : w.cell? ⟨c, 5, none⟩ = some vt' := by simp [World.cell?, h1, insCells]
    rw [hc] at this; exact (Option.some.inj this).symm
  subst e
  have hcl : c < w.heap.size := (Array.getElem?_eq_some_iff.1 h1).1
  have n1 : va.ownBlock ≠ some c := own_ne h2 h1 (by decide)
  have n2 : vt'.ownBlock ≠ some c := own_ne h3 h1 (by decide)
  have h1' : w3.heap[c]? = some (.cells (insCells x va vt').toArray 38 (0, 0)) := (hg.block c hcl (fun e => n2 e.symm)).trans h1
  have h2' : w3.ownsRow B 3 1 va x.2.2.2.2.1.length (ints x.2.2.2.2.1) := h2.kept hg h4
  have n3 : (Value.slice (some ⟨gg, 0, none⟩) (x.2.2.2.2.2.1.length + 1) cap).ownBlock ≠ some c := own_ne hown h1' (by decide)
  refine ⟨va, _, (heap_setCell_same w3 c 5 _ 38 _ h1').trans rfl, own_setCell h2' n1 _, ?_, ?_, h5⟩
  · have := own_setCell hown (p := ⟨c, 5, none⟩) n3 (.slice (some ⟨gg, 0, none⟩) (x.2.2.2.2.2.1.length + 1) cap)
    simpa [addTo] using this
  · cases hv : va.ownBlock with
    | none => exact .inl rfl
    | some q =>
      refine .inr fun e => ?_
      have e : some q = some gg := e
      rcases hat with hat | hat
      · rcases h4 with h4 | h4
        · rw [h4] at hv; cases hv
        · exact h4 (by rw [hv, e, hat])
      · have := (h2.lt q hv).2
        cases e
        omega
theorem Rdr.grown {B a : Nat} {L : List Tok} {E : Int} {n : Nat} {l : List Tok} {w w' : World} {row : Option Nat} (h : Rdr B a L E n l w) (hg : w.grownBy w' row) (hr : ∀ k, row = some k → B ≤ k) : Rdr B a L E n l w' :=
  h.keep hg.size fun k hk => hg.block k (Nat.lt_of_lt_of_le hk h.size) (fun e => by have := hr k e.symm; omega)
theorem Rdr.set {B a : Nat} {L : List Tok} {E : Int} {n : Nat} {l : List Tok} {w : World} (h : Rdr B a L E n l w) {p : Addr} (hp : B ≤ p.block) (v : Value) : Rdr B a L E n l (w.setCell p v) :=
  h.keep (by simp [World.setCell]) fun k hk => Below.heap_setCell _ _ _ _ (by omega)
set_option maxRecDepth 20000 in
theorem value_some {B a c : Nat} {L : List Tok} {E : Int} {n : Nat} {l : List Tok} {x : Ins} {k : Int} (w : World) (h : Rdr B a L E n l w) (hi : InsAt B c x w) (hk : G.mark idxF 37 1048576 (peek0 l) = some k) (hlen : x.2.2.2.2.1.length ≤ 131072) :
    Calls Tryd.prog 57 #[.pointer (some ⟨a, 0, none⟩), .pointer (some ⟨c, 0, none⟩)] w fun e w' => e = .returned (.tuple #[]) ∧ Kp B a w w' ∧ Rdr B a L E n l.tail w' ∧ InsAt B c (addArg x k) w' := by
  obtain ⟨i0, hi0, hz0, hz1, hz2⟩ := info_parts Tryd.info3
  have hI := hide hi
  obtain ⟨va, vt, h1, h2, h3, h4, h5⟩ := hi
  have c4 : w.cell? ⟨c, 4, none⟩ = some va := by simp [World.cell?, h1, insCells]
  have z4 : w.frozen? ⟨c, 4, none⟩ = false := by simp [World.frozen?, h1]
  have hsh := h.short
  have H := hide h
  have hcl : c < w.heap.size := (Array.getElem?_eq_some_iff.1 h1).1
  have ha := h.suffix.2.2.2
  have hac : c ≠ a := by omega
  have hBw := h.size
  have hva : ∀ g, va.ownBlock = some g → g < w.heap.size ∧ g ≠ a := fun g hg => by have := h2.lt g hg; omega
  have hl : l ≠ [] := fun e => by subst e; cases hk
  have hva2 : va.ownBlock ≠ some c := own_ne h2 h1 (by decide)
  clear h h1 h3
  go_enter Tryd.func57, Tryd.ntmps57
  go_wp2_with fail
  go_region_law ((first
      | (refine step_append_lies _ (by rfl) _ _ _ (by rfl) B 3 i0 _ 1 8 Tryd.underlying31 hi0 hz0 hz1 hz2 rfl (by omega) va x.2.2.2.2.1.length (ints x.2.2.2.2.1) (by rfl) (((k1.undrew.own h2 hva).kept (L2.below_grown b2) (by cases va.ownBlock <;> simp)).alloc _)
          ⟨w2.heap.size, 0, none⟩ 1 1 [.int .i64 k] (by rfl) (by rfl) one_cell one_one (by omega) (by unfold maxLen; omega) (by omega) (by simp; omega) (w2.heap.size + 1) (by simp) ?_; intro gg cap w3 hown hgrow hat hlt; obtain ⟨c43, z43⟩ := Cel.grown hgrow (by simp; omega) hva2 c4a z4a)
      | (go_simp; go_at_call 38; refine (take_any _ H.out.drew).mono ?_; rintro e w1 ⟨rfl, k1, r1⟩; have s1 : w.heap.size ≤ w1.heap.size := k1.size; have hcl1 : c < w1.heap.size := Nat.lt_of_lt_of_le hcl s1; obtain ⟨c41, z41⟩ := Cel.kp k1 hcl hac c4 z4)
      | (go_simp; go_at_call 47; refine (valueOf_some hsh hk).mono ?_; rintro e w2 ⟨rfl, b2⟩; have s2 : w1.heap.size ≤ w2.heap.size := b2.size; obtain ⟨c42, z42⟩ := Cel.below b2 hcl1 c41 z41; obtain ⟨c4a, z4a⟩ := Cel.below (below_box w2 (.cells #[.int .i64 k] 3)) (by omega) c42 z42)))
  all_goals
    refine bodyPost_end0' rfl rfl ⟨rfl, ?_, ?_, ?_⟩
    · exact ((((k1.undrew.andBelow b2).mono hBw).alloc (by omega) _).grown hgrow (by simp; omega) (fun q hq => ⟨(h2.lt q hq).1, (hva q hq).2⟩) (own_not80 (((k1.undrew.own h2 hva).kept (L2.below_grown b2) (by cases va.ownBlock <;> simp)).alloc _) (by decide))).setCell (.inr ⟨h5, hac⟩) ((((hI.out.kp k1.undrew ha).step b2).step (below_box w2 _)).far80 hgrow hva2) _
    · exact ((((r1 hl).step b2).step (below_box w2 _)).grown hgrow (fun q hq => (h2.lt q hq).1)).set h5 _
    · exact (((hI.out.kp k1.undrew ha).step b2).step (below_box w2 _)).arg c4a hown hgrow (by simpa using hat)
end Go.Proofs.YtkkkgennkhdfhaaDoor
