/- An instruction in memory; a value, and a label, is read into it. -/
import Derived.Test.YtahhbckccdigoaaGreatDoorMbAE
import Derived.Test.YtahhbckccdigoaaGreatDoorMbAF
import Derived.Test.YtahhbckccdigoaaGreatDoorMbAG
import Derived.Deep.RegionHeld3
import Derived.Deep.AppendLies
import Derived.Deep.DrawnRows
import Derived.Deep.RegionLaw
import Derived.Deep.RegionWith
set_option maxHeartbeats 8000000
set_option maxRecDepth 20000
namespace Go.Proofs.YtahhbckccdigoaaGreatDoor
open Go Go.RowKit
open G (Tok Er Ins Fun peek0 peek1 atOf)
theorem Tryz.info3 : (Tryz.prog.info? 3).map (fun i => (i.zero, i.size, i.bytes)) = some (some (.int .i64 0), 1, 8) := by kernel_rfl
abbrev ints (l : List Int) : List Value := l.map (Value.int .i64)
def insCells (x : Ins) (va vt : Value) : List Value := [.int .i64 x.1, .int .i64 x.2.1, .int .i64 x.2.2.1, .int .i64 x.2.2.2.1, va, vt, .string (bs x.2.2.2.2.2.2.1), .int .i64 x.2.2.2.2.2.2.2]
def InsAt (B c : Nat) (x : Ins) (w : World) : Prop :=
  ∃ va vt, w.heap[c]? = some (.cells (insCells x va vt).toArray 39 (0, 0)) /\ w.ownsRow B 3 1 va x.2.2.2.2.1.length (ints x.2.2.2.2.1) /\ w.ownsRow B 3 1 vt x.2.2.2.2.2.1.length (ints x.2.2.2.2.2.1) /\
    (va.ownBlock = none \/ va.ownBlock ≠ vt.ownBlock) /\ B <= c
theorem InsAt.keep {B c : Nat} {x : Ins} {w w' : World} (h : InsAt B c x w) (hb : ∀ k, B <= k -> k < w.heap.size -> w'.heap[k]? = w.heap[k]?) : InsAt B c x w' := by
  obtain ⟨va, vt, h1, h2, h3, h4, h5⟩ := h
  have key : ∀ {v : Value} {n : Nat} {xs : List Value}, w.ownsRow B 3 1 v n xs -> w'.ownsRow B 3 1 v n xs := by
    intro v n xs ho
    refine ⟨ho.1, ?_⟩
    rcases ho.2 with hn | ⟨g, cap, cur, hv2, hbb, hg, rest⟩
    . exact .inl hn
    . exact .inr ⟨g, cap, cur, hv2, hbb, (hb g hbb (Array.getElem?_eq_some_iff.1 hg).1).trans hg, rest⟩
  exact ⟨va, vt, (hb c h5 (Array.getElem?_eq_some_iff.1 h1).1).trans h1, key h2, key h3, h4, h5⟩
theorem InsAt.kp {B a c : Nat} {x : Ins} {w w' : World} (h : InsAt B c x w) (hk : Kp w.heap.size a w w') (ha : a < B) : InsAt B c x w' :=
  h.keep fun k h1 h2 => hk.2.2.2.2 k h2 (by omega)
theorem InsAt.step {B c : Nat} {x : Ins} {w w' : World} (h : InsAt B c x w) (hk : Below w.heap.size w w') : InsAt B c x w' := h.keep fun k _ h2 => hk.block k h2
theorem InsAt.not80 {B c : Nat} {x : Ins} {u w : World} (h : InsAt B c x w) : N80 u w c := .inr fun cs fz hc => by
  obtain ⟨va, vt, h1, _⟩ := h
  rw [h1] at hc
  simp at hc
theorem InsAt.far80 {B c : Nat} {x : Ins} {u w w' : World} {row : Option Nat} (h : InsAt B c x w) (hg : w.grownBy w' row) (hr : row ≠ some c) : N80 u w' c := .inr fun cs fz hc => by
  obtain ⟨va, vt, h1, _⟩ := h
  rw [hg.block c (Array.getElem?_eq_some_iff.1 h1).1 (fun e => hr e.symm), h1] at hc
  simp at hc
theorem InsAt.lt {B c : Nat} {x : Ins} {w : World} (h : InsAt B c x w) : c < w.heap.size /\ B <= c := by
  obtain ⟨va, vt, h1, h2, h3, h4, h5⟩ := h
  exact ⟨(Array.getElem?_eq_some_iff.1 h1).1, h5⟩
def Step (B a c : Nat) (L : List Tok) (E : Int) (n : Nat) (r : Except Er (Ins × List Tok)) (w : World) (e : Ending) (w' : World) : Prop :=
  Kp B a w w' /\ ((∃ x l', r = .ok (x, l') /\ e = .returned (.tuple #[]) /\ Rdr B a L E n l' w' /\ InsAt B c x w') \/ ∃ er : Er, r = .error er /\ e = thrown er.1 er.2)
def addArg (x : Ins) (v : Int) : Ins := (x.1, x.2.1, x.2.2.1, x.2.2.2.1, x.2.2.2.2.1 ++ [v], x.2.2.2.2.2.1, x.2.2.2.2.2.2.1, x.2.2.2.2.2.2.2)
def addTo (x : Ins) (v : Int) : Ins := (x.1, x.2.1, x.2.2.1, x.2.2.2.1, x.2.2.2.2.1, x.2.2.2.2.2.1 ++ [v], x.2.2.2.2.2.2.1, x.2.2.2.2.2.2.2)
def setN (x : Ins) (v : Int) : Ins := (x.1, x.2.1, v, x.2.2.2.1, x.2.2.2.2.1, x.2.2.2.2.2.1, x.2.2.2.2.2.2.1, x.2.2.2.2.2.2.2)
def setName (x : Ins) (s : List UInt8) : Ins := (x.1, x.2.1, x.2.2.1, x.2.2.2.1, x.2.2.2.2.1, x.2.2.2.2.2.1, s, x.2.2.2.2.2.2.2)
def byWord {α : Type} (x : Ins) (f : Ins -> α -> Ins) (r : Except Er (α × List Tok)) : Except Er (Ins × List Tok) := G.andThen r fun v l => .ok (f x v, l)
theorem valueOf_some {s : List UInt8} {p k : Int} {w : World} (hs : s.length <= 65536) (h : G.mark idxF 37 1048576 s = some k) : Calls Tryz.prog 139 #[.agg #[.string (bs s), .int .i64 p]] w fun e w' => e = .returned (.int .i64 k) /\ Below w.heap.size w w' :=
  (valueOf_any s p w hs).mono fun e w' ⟨hb, hh⟩ => by
    rcases hh with ⟨x, hx, rfl⟩ | ⟨hx, _⟩
    . rw [h] at hx; cases hx; exact ⟨rfl, hb⟩
    . rw [h] at hx; cases hx
theorem valueOf_none {s : List UInt8} {p : Int} {w : World} (hs : s.length <= 65536) (h : G.mark idxF 37 1048576 s = none) : Calls Tryz.prog 139 #[.agg #[.string (bs s), .int .i64 p]] w fun e w' => e = thrown 8 p /\ Below w.heap.size w w' :=
  (valueOf_any s p w hs).mono fun e w' ⟨hb, hh⟩ => by
    rcases hh with ⟨x, hx, _⟩ | ⟨_, rfl⟩
    . rw [h] at hx; cases hx
    . exact ⟨rfl, hb⟩
theorem Kp.cell {B a : Nat} {w w' : World} (h : Kp B a w w') {p : Addr} (hp : p.block < B) (ha : p.block ≠ a) : w'.cell? p = w.cell? p := World.cell?_of_block (w := w) (h.2.2.2.2 _ hp ha)
theorem Kp.frozen {B a : Nat} {w w' : World} (h : Kp B a w w') {p : Addr} (hp : p.block < B) (ha : p.block ≠ a) : w'.frozen? p = w.frozen? p := World.frozen?_of_block (w := w) (h.2.2.2.2 _ hp ha)
def Cel (w : World) (c i : Nat) (v : Value) : Prop := w.cell? ⟨c, i, none⟩ = some v /\ w.frozen? ⟨c, i, none⟩ = false
theorem Cel.kp {B a : Nat} {w w' : World} (k : Kp B a w w') {c i : Nat} {v : Value} (hp : c < B) (ha : c ≠ a) (h1 : w.cell? ⟨c, i, none⟩ = some v) (h2 : w.frozen? ⟨c, i, none⟩ = false) : w'.cell? ⟨c, i, none⟩ = some v /\ w'.frozen? ⟨c, i, none⟩ = false :=
  ⟨(k.cell (p := ⟨c, i, none⟩) hp ha).trans h1, (k.frozen (p := ⟨c, i, none⟩) hp ha).trans h2⟩
theorem Cel.below {B : Nat} {w w' : World} (k : Below B w w') {c i : Nat} {v : Value} (hp : c < B) (h1 : w.cell? ⟨c, i, none⟩ = some v) (h2 : w.frozen? ⟨c, i, none⟩ = false) : w'.cell? ⟨c, i, none⟩ = some v /\ w'.frozen? ⟨c, i, none⟩ = false :=
  ⟨(k.cell (p := ⟨c, i, none⟩) hp).trans h1, (k.frozen (p := ⟨c, i, none⟩) hp).trans h2⟩
theorem Cel.grown {w w' : World} {row : Option Nat} (k : w.grownBy w' row) {c i : Nat} {v : Value} (hp : c < w.heap.size) (hr : row ≠ some c) (h1 : w.cell? ⟨c, i, none⟩ = some v) (h2 : w.frozen? ⟨c, i, none⟩ = false) : w'.cell? ⟨c, i, none⟩ = some v /\ w'.frozen? ⟨c, i, none⟩ = false :=
  ⟨(k.cell_far ⟨c, i, none⟩ hp (Ne.symm hr)).trans h1, (k.frozen_far ⟨c, i, none⟩ hp (Ne.symm hr)).trans h2⟩
theorem Rdr.drew {B a : Nat} {L : List Tok} {E : Int} {n : Nat} {l : List Tok} {w : World} (h : Rdr B a L E n l w) : Rdr B a L E n l w.drew := h
theorem InsAt.drew {B c : Nat} {x : Ins} {w : World} (h : InsAt B c x w) : InsAt B c x w.drew := h
theorem Kp.undrew {B a : Nat} {w w' : World} (h : Kp B a w.drew w') : Kp B a w w' := h
theorem one_cell {w1 : World} {a : Value} {t : TypeId} : ∀ j u, [a][j]? = some u -> (w1.alloc (.cells #[a] t)).cell? ((⟨w1.heap.size, 0, none⟩ : Addr).add j) = some u := by
  intro j u hj
  match j, hj with
  | 0, hj => simp at hj; subst hj; simp [Addr.add]
theorem one_one {a : Int} : ∀ u ∈ [Value.int .i64 a], u.oneCell' = true := by
  intro u hu
  simp only [List.mem_singleton] at hu
  subst hu; rfl
theorem Kp.andBelow {a : Nat} {w w1 w2 : World} (h : Kp w.heap.size a w w1) (hb : Below w1.heap.size w1 w2) : Kp w.heap.size a w w2 := h.trans (Kp.of_belowW hb h.size)
theorem bodyPost_end0' {P : Program} {fn : Func} {R : Ending -> World -> Prop} {t : Array Value} {d : List Deferred} {w : World} (hr : fn.results = #[]) (hd : d = []) (hR : R (.returned (.tuple #[])) w) : bodyPost P fn R .normal { tmps := t, defers := d } w :=
  bodyPost_end (results_none hr _ _ _) hd hR
theorem step_done {P : Program} {Q : Prop} (h : Q) : wpAny P .any #[] (fun _ _ _ => True) 0 #[] { tmps := #[], defers := [] } default -> Q := fun _ => h
theorem value_none {B a c : Nat} {L : List Tok} {E : Int} {n : Nat} {l : List Tok} {x : Ins} (w : World) (h : Rdr B a L E n l w) (hi : InsAt B c x w) (hk : G.mark idxF 37 1048576 (peek0 l) = none) :
    Calls Tryz.prog 150 #[.pointer (some ⟨a, 0, none⟩), .pointer (some ⟨c, 0, none⟩)] w fun e w' => e = thrown 8 (atOf E l) /\ Kp B a w w' := by
  obtain ⟨va, vt, h1, h2, h3, h4, h5⟩ := hi
  have c4 : w.cell? ⟨c, 4, none⟩ = some va := by simp [World.cell?, h1, insCells]
  have z4 : w.frozen? ⟨c, 4, none⟩ = false := by simp [World.frozen?, h1]
  have hsh := h.short
  have H := hide h
  have hcl : c < w.heap.size := (Array.getElem?_eq_some_iff.1 h1).1
  have ha := h.suffix.2.2.2
  have hac : c ≠ a := by omega
  have hBw := h.size
  clear h h1 h3
  go_enter Tryz.func150, Tryz.ntmps150
  go_wp2_with fail
  go_region_with ((first
      | (go_at_call 112; refine (take_any _ H.out.drew).mono ?_; rintro e w1 ⟨rfl, k1, r1⟩; have s1 : w.heap.size <= w1.heap.size := k1.size; have hcl1 : c < w1.heap.size := Nat.lt_of_lt_of_le hcl s1; obtain ⟨c41, z41⟩ := Cel.kp k1 hcl hac c4 z4)
      | (go_at_call 139; refine (valueOf_none hsh hk).mono ?_; rintro e w2 ⟨rfl, b2⟩; go_loud (refine step_done (P := Tryz.prog) (by exact bodyPost_thrown ⟨rfl, (k1.undrew.andBelow b2).mono hBw⟩) ?_))))
  all_goals trivial
theorem own_setCell {w : World} {b e s n : Nat} {v : Value} {xs : List Value} (h : w.ownsRow b e s v n xs) {p : Addr} (hp : v.ownBlock ≠ some p.block) (u : Value) : (w.setCell p u).ownsRow b e s v n xs := by
  refine ⟨h.1, ?_⟩
  rcases h.2 with hn | ⟨g, cap, cur, hv2, hbb, hg, rest⟩
  . exact .inl hn
  . refine .inr ⟨g, cap, cur, hv2, hbb, ?_, rest⟩
    rw [Below.heap_setCell _ _ _ _ (fun e => hp (by rw [hv2, <- e]; rfl))]
    exact hg
theorem InsAt.arg {B c gg cap : Nat} {x : Ins} {k : Int} {va : Value} {w w3 : World} (h : InsAt B c x w) (hc : w.cell? ⟨c, 4, none⟩ = some va)
    (hown : w3.ownsRow B 3 1 (.slice (some ⟨gg, 0, none⟩) (x.2.2.2.2.1.length + 1) cap) (x.2.2.2.2.1.length + 1) (ints x.2.2.2.2.1 ++ [.int .i64 k])) (hg : w.grownBy w3 va.ownBlock) (hat : va.ownBlock = some gg \/ gg = w.heap.size) :
    InsAt B c (addArg x k) (w3.setCell ⟨c, 4, none⟩ (.slice (some ⟨gg, 0, none⟩) (x.2.2.2.2.1.length + 1) cap)) := by
  obtain ⟨va', vt, h1, h2, h3, h4, h5⟩ := h
  have e : va' = va := by
    have : w.cell? ⟨c, 4, none⟩ = some va' := by simp [World.cell?, h1, insCells]
    rw [hc] at this; exact (Option.some.inj this).symm
  subst e
  have hcl : c < w.heap.size := (Array.getElem?_eq_some_iff.1 h1).1
  have n1 : va'.ownBlock ≠ some c := own_ne h2 h1 (by decide)
  have n2 : vt.ownBlock ≠ some c := own_ne h3 h1 (by decide)
  have h1' : w3.heap[c]? = some (.cells (insCells x va' vt).toArray 39 (0, 0)) := (hg.block c hcl (fun e => n1 e.symm)).trans h1
  have h3' : w3.ownsRow B 3 1 vt x.2.2.2.2.2.1.length (ints x.2.2.2.2.2.1) := h3.kept hg (by
    rcases h4 with h4 | h4
    . rw [h4]; cases vt.ownBlock <;> simp
    . exact .inr (Ne.symm h4))
  have n3 : (Value.slice (some ⟨gg, 0, none⟩) (x.2.2.2.2.1.length + 1) cap).ownBlock ≠ some c := own_ne hown h1' (by decide)
  refine ⟨_, vt, (heap_setCell_same w3 c 4 _ 39 _ h1').trans rfl, ?_, own_setCell h3' n2 _, ?_, h5⟩
  . have := own_setCell hown (p := ⟨c, 4, none⟩) n3 (.slice (some ⟨gg, 0, none⟩) (x.2.2.2.2.1.length + 1) cap)
    simpa [addArg] using this
  . refine .inr fun e => ?_
    have e : some gg = vt.ownBlock := e
    rcases hat with hat | hat
    . rcases h4 with h4 | h4
      . rw [h4] at hat; cases hat
      . exact h4 (hat.trans e)
    . have := (h3.lt gg e.symm).2
      omega
theorem InsAt.to {B c gg cap : Nat} {x : Ins} {k : Int} {vt : Value} {w w3 : World} (h : InsAt B c x w) (hc : w.cell? ⟨c, 5, none⟩ = some vt)
    (hown : w3.ownsRow B 3 1 (.slice (some ⟨gg, 0, none⟩) (x.2.2.2.2.2.1.length + 1) cap) (x.2.2.2.2.2.1.length + 1) (ints x.2.2.2.2.2.1 ++ [.int .i64 k])) (hg : w.grownBy w3 vt.ownBlock) (hat : vt.ownBlock = some gg \/ gg = w.heap.size) :
    InsAt B c (addTo x k) (w3.setCell ⟨c, 5, none⟩ (.slice (some ⟨gg, 0, none⟩) (x.2.2.2.2.2.1.length + 1) cap)) := by
  obtain ⟨va, vt', h1, h2, h3, h4, h5⟩ := h
  have e : vt' = vt := by
    have : w.cell? ⟨c, 5, none⟩ = some vt' := by simp [World.cell?, h1, insCells]
    rw [hc] at this; exact (Option.some.inj this).symm
  subst e
  have hcl : c < w.heap.size := (Array.getElem?_eq_some_iff.1 h1).1
  have n1 : va.ownBlock ≠ some c := own_ne h2 h1 (by decide)
  have n2 : vt'.ownBlock ≠ some c := own_ne h3 h1 (by decide)
  have h1' : w3.heap[c]? = some (.cells (insCells x va vt').toArray 39 (0, 0)) := (hg.block c hcl (fun e => n2 e.symm)).trans h1
  have h2' : w3.ownsRow B 3 1 va x.2.2.2.2.1.length (ints x.2.2.2.2.1) := h2.kept hg h4
  have n3 : (Value.slice (some ⟨gg, 0, none⟩) (x.2.2.2.2.2.1.length + 1) cap).ownBlock ≠ some c := own_ne hown h1' (by decide)
  refine ⟨va, _, (heap_setCell_same w3 c 5 _ 39 _ h1').trans rfl, own_setCell h2' n1 _, ?_, ?_, h5⟩
  . have := own_setCell hown (p := ⟨c, 5, none⟩) n3 (.slice (some ⟨gg, 0, none⟩) (x.2.2.2.2.2.1.length + 1) cap)
    simpa [addTo] using this
  . cases hv : va.ownBlock with
    | none => exact .inl rfl
    | some q =>
      refine .inr fun e => ?_
      have e : some q = some gg := e
      rcases hat with hat | hat
      . rcases h4 with h4 | h4
        . rw [h4] at hv; cases hv
        . exact h4 (by rw [hv, e, hat])
      . have := (h2.lt q hv).2
        cases e
        omega
theorem Rdr.grown {B a : Nat} {L : List Tok} {E : Int} {n : Nat} {l : List Tok} {w w' : World} {row : Option Nat} (h : Rdr B a L E n l w) (hg : w.grownBy w' row) (hr : ∀ k, row = some k -> B <= k) : Rdr B a L E n l w' :=
  h.keep hg.size fun k hk => hg.block k (Nat.lt_of_lt_of_le hk h.size) (fun e => by have := hr k e.symm; omega)
theorem Rdr.set {B a : Nat} {L : List Tok} {E : Int} {n : Nat} {l : List Tok} {w : World} (h : Rdr B a L E n l w) {p : Addr} (hp : B <= p.block) (v : Value) : Rdr B a L E n l (w.setCell p v) :=
  h.keep (by simp [World.setCell]) fun k hk => Below.heap_setCell _ _ _ _ (by omega)
theorem value_some {B a c : Nat} {L : List Tok} {E : Int} {n : Nat} {l : List Tok} {x : Ins} {k : Int} (w : World) (h : Rdr B a L E n l w) (hi : InsAt B c x w) (hk : G.mark idxF 37 1048576 (peek0 l) = some k) (hlen : x.2.2.2.2.1.length <= 131072) :
    Calls Tryz.prog 150 #[.pointer (some ⟨a, 0, none⟩), .pointer (some ⟨c, 0, none⟩)] w fun e w' => e = .returned (.tuple #[]) /\ Kp B a w w' /\ Rdr B a L E n l.tail w' /\ InsAt B c (addArg x k) w' := by
  obtain ⟨i0, hi0, hz0, hz1, hz2⟩ := info_parts Tryz.info3
  have hI := hide hi
  obtain ⟨va, vt, h1, h2, h3, h4, h5⟩ := hi
  have c4 : w.cell? ⟨c, 4, none⟩ = some va := by simp [World.cell?, h1, insCells]
  have z4 : w.frozen? ⟨c, 4, none⟩ = false := by simp [World.frozen?, h1]
  have hsh := h.short
  have H := hide h
  have hcl : c < w.heap.size := (Array.getElem?_eq_some_iff.1 h1).1
  have ha := h.suffix.2.2.2
  have hac : c ≠ a := by omega
  have hBw := h.size
  have hva : ∀ g, va.ownBlock = some g -> g < w.heap.size /\ g ≠ a := fun g hg => by have := h2.lt g hg; omega
  have hl : l ≠ [] := fun e => by subst e; cases hk
  have hva2 : va.ownBlock ≠ some c := own_ne h2 h1 (by decide)
  clear h h1 h3
  go_enter Tryz.func150, Tryz.ntmps150
  go_wp2_with fail
  go_region_law ((first
      | (refine step_append_lies _ (by rfl) _ _ _ (by rfl) B 3 i0 _ 1 8 Tryz.underlying31 hi0 hz0 hz1 hz2 rfl (by omega) va x.2.2.2.2.1.length (ints x.2.2.2.2.1) (by rfl) (((k1.undrew.own h2 hva).kept (L2.below_grown b2) (by cases va.ownBlock <;> simp)).alloc _)
          ⟨w2.heap.size, 0, none⟩ 1 1 [.int .i64 k] (by rfl) (by rfl) one_cell one_one (by omega) (by unfold maxLen; omega) (by omega) (by simp; omega) (w2.heap.size + 1) (by simp) ?_; intro gg cap w3 hown hgrow hat hlt; obtain ⟨c43, z43⟩ := Cel.grown hgrow (by simp; omega) hva2 c4a z4a)
      | (go_simp; go_at_call 112; refine (take_any _ H.out.drew).mono ?_; rintro e w1 ⟨rfl, k1, r1⟩; have s1 : w.heap.size <= w1.heap.size := k1.size; have hcl1 : c < w1.heap.size := Nat.lt_of_lt_of_le hcl s1; obtain ⟨c41, z41⟩ := Cel.kp k1 hcl hac c4 z4)
      | (go_simp; go_at_call 139; refine (valueOf_some hsh hk).mono ?_; rintro e w2 ⟨rfl, b2⟩; have s2 : w1.heap.size <= w2.heap.size := b2.size; obtain ⟨c42, z42⟩ := Cel.below b2 hcl1 c41 z41; obtain ⟨c4a, z4a⟩ := Cel.below (below_box w2 (.cells #[.int .i64 k] 3)) (by omega) c42 z42)))
  all_goals
    refine bodyPost_end0' rfl rfl ⟨rfl, ?_, ?_, ?_⟩
    . exact ((((k1.undrew.andBelow b2).mono hBw).alloc (by omega) _).grown hgrow (by simp; omega) (fun q hq => ⟨(h2.lt q hq).1, (hva q hq).2⟩) (own_not80 (((k1.undrew.own h2 hva).kept (L2.below_grown b2) (by cases va.ownBlock <;> simp)).alloc _) (by decide))).setCell (.inr ⟨h5, hac⟩) ((((hI.out.kp k1.undrew ha).step b2).step (below_box w2 _)).far80 hgrow hva2) _
    . exact ((((r1 hl).step b2).step (below_box w2 _)).grown hgrow (fun q hq => (h2.lt q hq).1)).set h5 _
    . exact (((hI.out.kp k1.undrew ha).step b2).step (below_box w2 _)).arg c4a hown hgrow (by simpa using hat)
end Go.Proofs.YtahhbckccdigoaaGreatDoor
namespace Go.Proofs.YtahhbckccdigoaaGreatDoor
open Go Go.RowKit
open G (Tok Er Ins Fun peek0 peek1 atOf)
def Kr (a : Nat) (w w' : World) : Prop := w'.os = w.os /\ w'.tape = w.tape /\ w'.output = w.output /\ w.heap.size <= w'.heap.size /\ ∀ k, k < w.heap.size -> k ≠ a -> w'.heap[k]? = w.heap[k]?
theorem Kr.refl (a : Nat) (w : World) : Kr a w w := ⟨rfl, rfl, rfl, Nat.le_refl _, fun _ _ _ => rfl⟩
theorem Kr.trans {a : Nat} {u v w : World} (h : Kr a u v) (k : Kr a v w) : Kr a u w :=
  ⟨k.1.trans h.1, k.2.1.trans h.2.1, k.2.2.1.trans h.2.2.1, Nat.le_trans h.2.2.2.1 k.2.2.2.1, fun i h1 h2 => (k.2.2.2.2 i (Nat.lt_of_lt_of_le h1 h.2.2.2.1) h2).trans (h.2.2.2.2 i h1 h2)⟩
theorem Kr.of_below {a : Nat} {u v : World} (h : Below u.heap.size u v) : Kr a u v := ⟨h.os, h.tape, h.output, h.size, fun i h1 _ => h.block i h1⟩
theorem Kr.size {a : Nat} {u v : World} (h : Kr a u v) : u.heap.size <= v.heap.size := h.2.2.2.1
theorem Kr.step {a : Nat} {u v w : World} (h : Kr a u v) (k : Below v.heap.size v w) : Kr a u w := h.trans (Kr.of_below k)
theorem Kr.below {a B : Nat} {u v : World} (h : Kr a u v) (ha : B <= a) (hB : B <= u.heap.size) : Below B u v := ⟨h.1, h.2.1, h.2.2.1, h.2.2.2.1, fun i h1 => h.2.2.2.2 i (by omega) (by omega)⟩
theorem Kr.set {a i : Nat} {u w : World} (h : Kr a u w) (x : Value) : Kr a u (w.setCell ⟨a, i, none⟩ x) := by
  have hb := (Below.refl 0 w).setCell (p := ⟨a, i, none⟩) (Nat.zero_le a) x
  exact h.trans ⟨hb.os, hb.tape, hb.output, hb.size, fun k _ h2 => Below.heap_setCell w ⟨a, i, none⟩ x k h2⟩
def RR (a : Nat) (L : List Tok) (E : Int) (n : Nat) (l : List Tok) (w : World) : Prop :=
  ∃ v, w.heap[a]? = some (.cells #[v, .int .i64 ((L.length - l.length : Nat) : Int), .int .i64 E, .int .i64 (n : Int), .int .i64 0, .int .i64 0] 80 (0, 0)) /\ w.ownsRow 0 96 2 v L.length (cellsK L) /\ l <:+ L /\ (L.length <= 131072 /\ ∀ t ∈ L, t.1.length <= 65536) /\ n <= 4096
theorem RR.lt {a : Nat} {L : List Tok} {E : Int} {n : Nat} {l : List Tok} {w : World} (h : RR a L E n l w) : a < w.heap.size := by
  obtain ⟨v, h1, _⟩ := h; exact (Array.getElem?_eq_some_iff.1 h1).1
theorem RR.keep {a : Nat} {L : List Tok} {E : Int} {n : Nat} {l : List Tok} {w w' : World} (h : RR a L E n l w) (hb : ∀ k, k < w.heap.size -> w'.heap[k]? = w.heap[k]?) : RR a L E n l w' := by
  obtain ⟨v, h1, h2, h3⟩ := h
  refine ⟨v, (hb a (Array.getElem?_eq_some_iff.1 h1).1).trans h1, ⟨h2.1, ?_⟩, h3⟩
  rcases h2.2 with hn | ⟨g, cap, cur, hv2, hbb, hg, rest⟩
  . exact .inl hn
  . exact .inr ⟨g, cap, cur, hv2, hbb, (hb g (Array.getElem?_eq_some_iff.1 hg).1).trans hg, rest⟩
theorem RR.below {a : Nat} {L : List Tok} {E : Int} {n : Nat} {l : List Tok} {w w' : World} (h : RR a L E n l w) (b : Below w.heap.size w w') : RR a L E n l w' := h.keep fun k hk => b.block k hk
theorem RR.short {a : Nat} {L : List Tok} {E : Int} {n : Nat} {l : List Tok} {w : World} (h : RR a L E n l w) : (peek0 l).length <= 65536 /\ (peek1 l).length <= 65536 := by
  obtain ⟨v, h1, h2, h5, h6, h7⟩ := h
  refine ⟨?_, ?_⟩
  . cases l with
    | nil => simp [peek0]
    | cons t r => exact h6.2 t (h5.subset (by simp))
  . match l, h5 with
    | [], _ => simp [peek1]
    | [_], _ => simp [peek1]
    | _ :: t :: r, h5 => exact h6.2 t (h5.subset (by simp))
theorem RR.cells {a : Nat} {L : List Tok} {E : Int} {n : Nat} {l : List Tok} {w : World} (h : RR a L E n l w) :
    ∃ ao cap, w.cell? ⟨a, 0, none⟩ = some (.slice ao L.length cap) /\ w.cell? ⟨a, 1, none⟩ = some (.int .i64 ((L.length - l.length : Nat) : Int)) /\ w.cell? ⟨a, 2, none⟩ = some (.int .i64 E) /\ w.cell? ⟨a, 3, none⟩ = some (.int .i64 (n : Int)) /\ w.cell? ⟨a, 4, none⟩ = some (.int .i64 0) /\ w.cell? ⟨a, 5, none⟩ = some (.int .i64 0) /\
      (∀ j, w.frozen? ⟨a, j, none⟩ = false) /\ (L = [] \/ ∃ g, ao = some ⟨g, 0, none⟩ /\ ∀ j t, L[j]? = some t -> w.cell? ⟨g, j * 2, none⟩ = some (.string (bs t.1)) /\ w.cell? ⟨g, j * 2 + 1, none⟩ = some (.int .i64 t.2)) := by
  obtain ⟨v, h1, h2, h5, h6, h7⟩ := h
  rcases h2.2 with ⟨hv, hn⟩ | ⟨g, cap, cur, hv2, hbb, hg, hc1, hc2, hc3, hc4⟩
  . subst hv
    have e : L = [] := List.length_eq_zero_iff.1 hn
    subst e
    exact ⟨none, 0, by simp [World.cell?, h1], by simp [World.cell?, h1], by simp [World.cell?, h1], by simp [World.cell?, h1], by simp [World.cell?, h1], by simp [World.cell?, h1], fun j => by simp [World.frozen?, h1], .inl rfl⟩
  . subst hv2
    refine ⟨some ⟨g, 0, none⟩, cap, by simp [World.cell?, h1], by simp [World.cell?, h1], by simp [World.cell?, h1], by simp [World.cell?, h1], by simp [World.cell?, h1], by simp [World.cell?, h1], fun j => by simp [World.frozen?, h1], .inr ⟨g, rfl, fun j t hj => ?_⟩⟩
    have hc := h2.cells (g := g) rfl
    obtain ⟨k1, k2⟩ := cellsK_at L j t hj
    have e1 := hc _ _ k1
    have e2 := hc _ _ k2
    rw [Addr.add_lit, Nat.zero_add, Nat.mul_comm] at e1 e2
    exact ⟨e1, e2⟩
theorem RR.eat {a : Nat} {L : List Tok} {E : Int} {n : Nat} {l : List Tok} {w : World} (h : RR a L E n l w) (hl : l ≠ []) : RR a L E n l.tail (w.setCell ⟨a, 1, none⟩ (.int .i64 (((L.length - l.length : Nat) : Int) + 1))) := by
  obtain ⟨v, h1, h2, h5, h6, h7⟩ := h
  refine ⟨v, ?_, own_setCell h2 (own_ne h2 h1 (by decide)) _, (List.tail_suffix l).trans h5, h6, h7⟩
  rw [heap_setCell_same w a 1 _ 80 _ h1]
  have e : ((L.length - l.length : Nat) : Int) + 1 = ((L.length - l.tail.length : Nat) : Int) := by
    have := h5.length_le
    cases l with
    | nil => exact absurd rfl hl
    | cons t r => simp at *; omega
  rw [e]; rfl
theorem RR.kr {a : Nat} {w : World} (i : Nat) (x : Value) : Kr a w (w.setCell ⟨a, i, none⟩ x) := (Kr.refl a w).set x
def pk (i : Nat) (l : List Tok) : List UInt8 := match l[i]? with
  | some t => t.1
  | none => []
theorem pk0 (l : List Tok) : pk 0 l = peek0 l := by cases l <;> rfl
theorem pk1 (l : List Tok) : pk 1 l = peek1 l := by
  match l with
  | [] => rfl
  | [_] => rfl
  | _ :: t :: r => rfl
theorem rpeek (i : Nat) {a : Nat} {L : List Tok} {E : Int} {n : Nat} {l : List Tok} (w : World) (h : RR a L E n l w) (hi : i <= 1) :
    Calls Tryz.prog 92 #[.pointer (some ⟨a, 0, none⟩), .int .i64 i] w fun e w' => e = .returned (.string (bs (pk i l))) /\ Below w.heap.size w w' := by
  obtain ⟨ao, cap, c0, c1, c2, c3, c4, c5, fz, hL⟩ := h.cells
  obtain ⟨v, h1, h2, h5, h6, h7⟩ := h
  have hLL := h6.1
  have hll := h5.length_le
  by_cases hlt : L.length - l.length + i < L.length
  . obtain ⟨t, ht⟩ : ∃ t, L[L.length - l.length + i]? = some t := ⟨_, List.getElem?_eq_getElem hlt⟩
    have HP : Hid (bs t.1 = bs (pk i l)) := hide (by
      have e := Rdr.word h5 i
      rw [ht] at e
      unfold pk; rw [<- e])
    rcases hL with hL | ⟨g, rfl, hg⟩
    . subst hL; simp at hlt
    have hc := (hg _ t ht).1
    have hlt' : (((L.length - l.length : Nat) : Int) + (i : Int)) < L.length := by omega
    have hge : ¬ (L.length : Int) <= ((L.length - l.length : Nat) : Int) + (i : Int) := by omega
    have hidx : ((L.length - l.length : Nat) : Int) + (i : Int) = ((L.length - l.length + i : Nat) : Int) := by omega
    clear hg ht h1 h2 h5 h6 fz c2 c3 c5
    generalize L.length - l.length = q at *
    obtain ⟨m, hm⟩ : ∃ m : Nat, m = q + i := ⟨_, rfl⟩
    have hw : IntKind.i64.wrap ((q : Int) + (i : Int)) = (m : Int) := by rw [IntWalk.i64_in _ ⟨by omega, by omega⟩]; omega
    have hg1 : decide ((L.length : Int) <= (m : Int)) = false := by simp; omega
    have hm1 : (m : Int) < L.length := by omega
    have hm0 : (0 : Int) <= m := by omega
    rw [<- hm] at hc
    clear hge hlt hm hlt' hidx
    go_enter Tryz.func92, Tryz.ntmps92
    go_wp2_with fail
    go_quiet (fail)
    go_wp2_with fail
    go_quiet (fail)
    go_wp2_with fail
    go_ret
    exact ⟨L5.ret_str HP.out, ⟨rfl, rfl, rfl, Nat.le_refl _, fun _ _ => rfl⟩⟩
  . have HP : Hid (bs [] = bs (pk i l)) := hide (by
      have e := Rdr.word h5 i
      rw [List.getElem?_eq_none (by omega)] at e
      unfold pk; rw [<- e])
    have hge : (L.length : Int) <= ((L.length - l.length : Nat) : Int) + (i : Int) := by omega
    clear h1 h2 h5 h6 hL fz c2 c3 c5
    have hq : L.length - l.length <= L.length := by omega
    generalize L.length - l.length = q at *
    obtain ⟨m, hm⟩ : ∃ m : Nat, m = q + i := ⟨_, rfl⟩
    have hw : IntKind.i64.wrap ((q : Int) + (i : Int)) = (m : Int) := by rw [IntWalk.i64_in _ ⟨by omega, by omega⟩]; omega
    have hg1 : decide ((L.length : Int) <= (m : Int)) = true := by simp; omega
    have hg2 : (L.length : Int) <= (m : Int) := by omega
    have hg3 : L.length <= m := by omega
    clear hge hlt hm
    go_enter Tryz.func92, Tryz.ntmps92
    go_wp2_with fail
    go_quiet (fail)
    go_wp2_with fail
    go_ret
    exact ⟨L5.ret_str HP.out, ⟨rfl, rfl, rfl, Nat.le_refl _, fun _ _ => rfl⟩⟩
end Go.Proofs.YtahhbckccdigoaaGreatDoor
namespace Go.Proofs.YtahhbckccdigoaaGreatDoor
open Go Go.RowKit
open G (Tok Er Ins Fun peek0 peek1 atOf)
theorem rpeek0 {s : List UInt8} {a : Nat} {L : List Tok} {E : Int} {n : Nat} {l : List Tok} (w : World) (h : RR a L E n l w) (hs : peek0 l = s) :
    Calls Tryz.prog 92 #[.pointer (some ⟨a, 0, none⟩), .int .i64 0] w fun e w' => e = .returned (.string (bs s)) /\ Below w.heap.size w w' := by
  have := rpeek 0 w h (by omega)
  rw [pk0, hs] at this
  exact this
theorem rpeek1 {s : List UInt8} {a : Nat} {L : List Tok} {E : Int} {n : Nat} {l : List Tok} (w : World) (h : RR a L E n l w) (hs : peek1 l = s) :
    Calls Tryz.prog 92 #[.pointer (some ⟨a, 0, none⟩), .int .i64 1] w fun e w' => e = .returned (.string (bs s)) /\ Below w.heap.size w w' := by
  have := rpeek 1 w h (by omega)
  rw [pk1, hs] at this
  exact this
def Ate (a : Nat) (L : List Tok) (E : Int) (n : Nat) (l : List Tok) (w w' : World) : Prop := RR a L E n l w' /\ Kr a w w'
theorem ate_of {a : Nat} {L : List Tok} {E : Int} {n : Nat} {l : List Tok} {w w1 : World} (h : RR a L E n l w) (b : Below w.heap.size w w1) (hl : l ≠ []) : Ate a L E n l.tail w (w1.setCell ⟨a, 1, none⟩ (.int .i64 (((L.length - l.length : Nat) : Int) + 1))) :=
  ⟨(h.below b).eat hl, (Kr.of_below b).set _⟩
theorem RR.at1 {a : Nat} {L : List Tok} {E : Int} {n : Nat} {l : List Tok} {w : World} (h : RR a L E n l w) : w.cell? ⟨a, 1, none⟩ = some (.int .i64 ((L.length - l.length : Nat) : Int)) /\ w.frozen? ⟨a, 1, none⟩ = false /\ w.cell? ⟨a, 4, none⟩ = some (.int .i64 0) /\ ((L.length - l.length : Nat) : Int) <= 131072 := by
  have hl : L.length <= 131072 := by obtain ⟨v, h1, h2, h5, h6, h7⟩ := h; exact h6.1
  obtain ⟨ao, cap, c0, c1, c2, c3, c4, c5, fz, hL⟩ := h.cells
  exact ⟨c1, fz 1, c4, by omega⟩
theorem endP' {P : Program} {fn : Func} {R : Ending -> World -> Prop} {t : Array Value} {d : List Deferred} {w : World} (hr : fn.results = #[]) (hd : d = []) (hR : R (.returned (.tuple #[])) w) : bodyPost P fn R .normal { tmps := t, defers := d } w :=
  bodyPost_end (results_none hr _ _ _) hd hR
theorem bs_beq (s : List UInt8) : ((bs s).toList == (bs s).toList) = true := by simp
theorem rwant (s : List UInt8) {a : Nat} {L : List Tok} {E : Int} {n : Nat} {l : List Tok} (w : World) (h : RR a L E n l w) (hs : peek0 l = s) (hne : s ≠ []) :
    Calls Tryz.prog 90 #[.pointer (some ⟨a, 0, none⟩), .string (bs s)] w fun e w' => e = .returned (.tuple #[]) /\ Ate a L E n l.tail w w' := by
  have hl : l ≠ [] := fun e => by subst e; exact hne hs.symm
  obtain ⟨c1, z1, c4, hq⟩ := h.at1
  have H := hide h
  have HS := hide hs
  have he := bs_beq s
  clear h hs hne c1 z1
  go_enter Tryz.func90, Tryz.ntmps90
  go_wp2_with fail
  refine (rpeek0 w H.out HS.out).mono ?_; rintro e w1 ⟨rfl, b1⟩
  obtain ⟨c1, z1, c4', _⟩ := (H.out.below b1).at1
  have HA := hide (ate_of H.out b1 hl)
  clear b1 c4 c4'
  generalize L.length - l.length = q at *
  go_wp2_with fail
  exact endP' rfl rfl ⟨rfl, HA.out⟩
theorem namF_ne {s : List UInt8} (h : namF s = true) : s ≠ [] := fun e => by subst e; rw [nam_nil] at h; cases h
theorem rname (s : List UInt8) {a : Nat} {L : List Tok} {E : Int} {n : Nat} {l : List Tok} (w : World) (h : RR a L E n l w) (hs : peek0 l = s) (hn : namF s = true) :
    Calls Tryz.prog 91 #[.pointer (some ⟨a, 0, none⟩)] w fun e w' => e = .returned (.string (bs s)) /\ Ate a L E n l.tail w w' := by
  have hl : l ≠ [] := fun e => by subst e; exact namF_ne hn hs.symm
  have hsz : (bs s).size <= maxLen := by rw [bs_size, <- hs]; have := h.short.1; unfold maxLen; omega
  have H := hide h
  have HS := hide hs
  have HN : Hid (L2.nameB s = true) := hide hn
  clear h hs hn
  go_enter Tryz.func91, Tryz.ntmps91
  go_wp2_with fail
  refine (rpeek0 w H.out HS.out).mono ?_; rintro e w1 ⟨rfl, b1⟩
  go_wp2_with fail
  refine (L2.rname_any (bs s) w1 hsz).mono ?_; rintro e w2 ⟨rfl, hw2⟩
  rw [hw2, bs_data, HN.out]
  clear hw2
  obtain ⟨c1, z1, c4, hq⟩ := (H.out.below b1).at1
  have HA := hide (ate_of H.out b1 hl)
  clear b1 c4
  generalize L.length - l.length = q at *
  go_wp2_with fail
  go_ret
  exact ⟨rfl, HA.out⟩
theorem mark_some {c : UInt8} {most v : Int} {s : List UInt8} (h : G.mark idxF c most s = some v) : ∃ r, s = c :: r /\ r ≠ [] /\ (L1.indexNum r most) = (v, 0) := by
  match s, h with
  | x :: y :: r, g =>
    clear h
    have h : (if x = c then idxF (y :: r) most else none) = some v := g
    clear g
    by_cases hx : x = c
    . rw [if_pos hx] at h
      subst hx
      refine ⟨y :: r, rfl, by simp, ?_⟩
      unfold idxF at h
      by_cases h0 : (L1.indexNum (y :: r) most).2 = 0
      . rw [if_pos h0] at h
        injection h with h1
        exact Prod.ext h1 h0
      . rw [if_neg h0] at h
        cases h
    . rw [if_neg hx] at h
      cases h
  | [x], h => cases h
  | [], h => cases h
theorem bs_tail (c : UInt8) (r : List UInt8) : (bs (c :: r)).extract 1 (bs (c :: r)).size = bs r := by
  apply ByteArray.ext
  apply Array.ext'
  rw [L1.extract_tail]
  rfl
theorem rindex (c : UInt8) (most k v : Int) {s : List UInt8} {a : Nat} {L : List Tok} {E : Int} {n : Nat} {l : List Tok} (w : World) (h : RR a L E n l w) (hs : peek0 l = s) (hm : G.mark idxF c most s = some v) :
    Calls Tryz.prog 126 #[.pointer (some ⟨a, 0, none⟩), .int .u8 (c.toNat : Int), .int .i64 most, .int .i64 k] w fun e w' => e = .returned (.int .i64 v) /\ Ate a L E n l.tail w w' := by
  obtain ⟨r, rfl, hr, hi⟩ := mark_some hm
  have hl : l ≠ [] := fun e => by subst e; cases hs
  have hsh := h.short.1
  rw [hs] at hsh
  have HZ := hide (bs_size (c :: r))
  obtain ⟨C, hC⟩ : ∃ C, C = bs (c :: r) := ⟨_, rfl⟩
  have hz2 : 2 <= C.size := by rw [hC, bs_size]; cases r with | nil => exact absurd rfl hr | cons x y => simp
  have hz1 : decide ((C.size : Int) < 2) = false := by simp; omega
  have hz4 : 0 < C.size := by omega
  have hz5 : 1 <= C.size := by omega
  have hz3 : C.size <= 65536 := by rw [hC, bs_size]; exact hsh
  have hrz : (bs r).size <= maxLen := by rw [bs_size]; simp at hsh; unfold maxLen; omega
  have hT : C.extract 1 C.size = bs r := by rw [hC]; exact bs_tail c r
  have h0 : (C[0].toNat : Int) = (c.toNat : Int) := by subst hC; rfl
  have H := hide h
  have HS : Hid (bs (peek0 l) = C) := hide (by rw [hs, hC])
  have HI := hide hi
  clear h hs hm hr hi hsh hC
  go_enter Tryz.func126, Tryz.ntmps126
  go_wp2_with fail
  refine (rpeek0 w H.out rfl).mono ?_; rintro e w1 ⟨rfl, b1⟩
  rw [HS.out]
  go_wp2_with fail
  refine (L1.refIndex_any (bs r) most w1 hrz).mono ?_; rintro e w2 ⟨rfl, n2, hw2⟩
  rw [bs_data, HI.out]
  have b2 : Below w.heap.size w w2 := by rw [hw2]; exact below_drewN b1 _
  clear hw2 b1
  obtain ⟨c1, z1, c4, hq⟩ := (H.out.below b2).at1
  have HA := hide (ate_of H.out b2 hl)
  clear b2 c4
  generalize L.length - l.length = q at *
  go_wp2_with fail
  go_ret
  exact ⟨rfl, HA.out⟩
theorem rvalue {v : Int} {l r : List Tok} {a : Nat} {L : List Tok} {E : Int} {n : Nat} (w : World) (h : RR a L E n l w) (hv : G.value idxF E l = .ok (v, r)) :
    Calls Tryz.prog 114 #[.pointer (some ⟨a, 0, none⟩)] w fun e w' => e = .returned (.int .i64 v) /\ Ate a L E n r w w' := by
  obtain ⟨_, rfl, hm⟩ := G.value_ok hv
  have H := hide h
  clear h hv
  go_enter Tryz.func114, Tryz.ntmps114
  go_wp2_with fail
  refine (rindex 37 1048576 8 v w H.out rfl hm).mono ?_; rintro e w1 ⟨rfl, b1⟩
  have HB := hide b1
  clear b1 hm
  go_wp2_with fail
  go_ret
  exact ⟨rfl, HB.out⟩
theorem rlabel {v : Int} {l r : List Tok} {a : Nat} {L : List Tok} {E : Int} {n : Nat} (w : World) (h : RR a L E n l w) (hv : G.label idxF E l = .ok (v, r)) :
    Calls Tryz.prog 145 #[.pointer (some ⟨a, 0, none⟩)] w fun e w' => e = .returned (.int .i64 v) /\ Ate a L E n r w w' := by
  obtain ⟨_, rfl, hm⟩ := G.label_ok hv
  have H := hide h
  clear h hv
  go_enter Tryz.func145, Tryz.ntmps145
  go_wp2_with fail
  refine (rindex 98 255 7 v w H.out rfl hm).mono ?_; rintro e w1 ⟨rfl, b1⟩
  have HB := hide b1
  clear b1 hm
  go_wp2_with fail
  go_ret
  exact ⟨rfl, HB.out⟩
theorem rnumber (lo hi v : Int) {l : List Tok} {a : Nat} {L : List Tok} {E : Int} {n : Nat} (w : World) (h : RR a L E n l w) (hv : numF (peek0 l) = (v, 0)) (h1 : lo <= v) (h2 : v <= hi) :
    Calls Tryz.prog 127 #[.pointer (some ⟨a, 0, none⟩), .int .i64 lo, .int .i64 hi] w fun e w' => e = .returned (.int .i64 v) /\ Ate a L E n l.tail w w' := by
  have hl : l ≠ [] := fun e => by subst e; exact num_nil (congrArg Prod.snd hv)
  have hsz : (bs (peek0 l)).size <= maxLen := by rw [bs_size]; have := h.short.1; unfold maxLen; omega
  have H := hide h
  have HV : Hid (L1.readNum (peek0 l) = (v, 0)) := hide hv
  have g1 : decide (v < lo) = false := by simp; omega
  have g2 : decide (hi < v) = false := by simp; omega
  have g3 : ¬ v < lo := by omega
  have g4 : ¬ hi < v := by omega
  clear h hv
  go_enter Tryz.func127, Tryz.ntmps127
  go_wp2_with fail
  refine (rpeek0 w H.out rfl).mono ?_; rintro e w1 ⟨rfl, b1⟩
  go_wp2_with fail
  refine (L1.refParse_any (bs (peek0 l)) w1 hsz).mono ?_; rintro e w2 ⟨rfl, n2, hw2⟩
  rw [bs_data, HV.out]
  have b2 : Below w.heap.size w w2 := by rw [hw2]; exact below_drewN b1 _
  clear hw2 b1
  obtain ⟨c1, z1, c4, hq⟩ := (H.out.below b2).at1
  have HA := hide (ate_of H.out b2 hl)
  clear b2 c4
  generalize L.length - l.length = q at *
  go_wp2_with fail
  go_ret
  exact ⟨rfl, HA.out⟩
theorem number_ok {E lo hi v : Int} {l r : List Tok} (h : G.number numF E lo hi l = .ok (v, r)) : r = l.tail /\ numF (peek0 l) = (v, 0) /\ lo <= v /\ v <= hi := by
  obtain ⟨_, rfl, h3⟩ := G.one_ok (by simp [num_nil]) h
  by_cases hc : (numF (peek0 l)).2 ≠ 0 \/ (numF (peek0 l)).1 < lo \/ hi < (numF (peek0 l)).1
  . simp only [if_pos hc] at h3; cases h3
  . simp only [if_neg hc] at h3
    injection h3 with h4
    have e2 : (numF (peek0 l)).2 = 0 := Classical.byContradiction fun hn => hc (.inl hn)
    refine ⟨rfl, Prod.ext h4 e2, ?_, ?_⟩
    . rw [<- h4]; omega
    . rw [<- h4]; omega
theorem anyNum_ok {E v : Int} {l r : List Tok} (h : G.anyNum numF E l = .ok (v, r)) : r = l.tail /\ numF (peek0 l) = (v, 0) := by
  obtain ⟨_, rfl, h3⟩ := G.one_ok (by simp [num_nil]) h
  by_cases hc : (numF (peek0 l)).2 ≠ 0
  . simp only [if_pos hc] at h3; cases h3
  . simp only [if_neg hc] at h3
    injection h3 with h4
    exact ⟨rfl, Prod.ext h4 (Classical.byContradiction fun hn => hc hn)⟩
end Go.Proofs.YtahhbckccdigoaaGreatDoor
namespace Go.Proofs.YtahhbckccdigoaaGreatDoor
open Go Go.RowKit
open G (Tok Er Ins Fun peek0 peek1 atOf)
theorem labelOf_some {s : List UInt8} {p k : Int} {w : World} (hs : s.length <= 65536) (h : G.mark idxF 98 255 s = some k) : Calls Tryz.prog 124 #[.agg #[.string (bs s), .int .i64 p]] w fun e w' => e = .returned (.int .i64 k) /\ Below w.heap.size w w' :=
  (labelOf_any s p w hs).mono fun e w' ⟨hb, hh⟩ => by
    rcases hh with ⟨x, hx, rfl⟩ | ⟨hx, _⟩
    . rw [h] at hx; cases hx; exact ⟨rfl, hb⟩
    . rw [h] at hx; cases hx
theorem labelOf_none {s : List UInt8} {p : Int} {w : World} (hs : s.length <= 65536) (h : G.mark idxF 98 255 s = none) : Calls Tryz.prog 124 #[.agg #[.string (bs s), .int .i64 p]] w fun e w' => e = thrown 7 p /\ Below w.heap.size w w' :=
  (labelOf_any s p w hs).mono fun e w' ⟨hb, hh⟩ => by
    rcases hh with ⟨x, hx, _⟩ | ⟨_, rfl⟩
    . rw [h] at hx; cases hx
    . exact ⟨rfl, hb⟩
theorem label_none {B a c : Nat} {L : List Tok} {E : Int} {n : Nat} {l : List Tok} {x : Ins} (w : World) (h : Rdr B a L E n l w) (hi : InsAt B c x w) (hk : G.mark idxF 98 255 (peek0 l) = none) :
    Calls Tryz.prog 151 #[.pointer (some ⟨a, 0, none⟩), .pointer (some ⟨c, 0, none⟩)] w fun e w' => e = thrown 7 (atOf E l) /\ Kp B a w w' := by
  obtain ⟨va, vt, h1, h2, h3, h4, h5⟩ := hi
  have c4 : w.cell? ⟨c, 5, none⟩ = some vt := by simp [World.cell?, h1, insCells]
  have z4 : w.frozen? ⟨c, 5, none⟩ = false := by simp [World.frozen?, h1]
  have hsh := h.short
  have H := hide h
  have hcl : c < w.heap.size := (Array.getElem?_eq_some_iff.1 h1).1
  have ha := h.suffix.2.2.2
  have hac : c ≠ a := by omega
  have hBw := h.size
  clear h h1 h2
  go_enter Tryz.func151, Tryz.ntmps151
  go_wp2_with fail
  go_region_with ((first
      | (go_at_call 112; refine (take_any _ H.out.drew).mono ?_; rintro e w1 ⟨rfl, k1, r1⟩; have s1 : w.heap.size <= w1.heap.size := k1.size; have hcl1 : c < w1.heap.size := Nat.lt_of_lt_of_le hcl s1; obtain ⟨c41, z41⟩ := Cel.kp k1 hcl hac c4 z4)
      | (go_at_call 124; refine (labelOf_none hsh hk).mono ?_; rintro e w2 ⟨rfl, b2⟩; go_loud (refine step_done (P := Tryz.prog) (by exact bodyPost_thrown ⟨rfl, (k1.undrew.andBelow b2).mono hBw⟩) ?_))))
  all_goals trivial
theorem label_some {B a c : Nat} {L : List Tok} {E : Int} {n : Nat} {l : List Tok} {x : Ins} {k : Int} (w : World) (h : Rdr B a L E n l w) (hi : InsAt B c x w) (hk : G.mark idxF 98 255 (peek0 l) = some k) (hlen : x.2.2.2.2.2.1.length <= 131072) :
    Calls Tryz.prog 151 #[.pointer (some ⟨a, 0, none⟩), .pointer (some ⟨c, 0, none⟩)] w fun e w' => e = .returned (.tuple #[]) /\ Kp B a w w' /\ Rdr B a L E n l.tail w' /\ InsAt B c (addTo x k) w' := by
  obtain ⟨i0, hi0, hz0, hz1, hz2⟩ := info_parts Tryz.info3
  have hI := hide hi
  obtain ⟨va, vt, h1, h2, h3, h4, h5⟩ := hi
  have c4 : w.cell? ⟨c, 5, none⟩ = some vt := by simp [World.cell?, h1, insCells]
  have z4 : w.frozen? ⟨c, 5, none⟩ = false := by simp [World.frozen?, h1]
  have hsh := h.short
  have H := hide h
  have hcl : c < w.heap.size := (Array.getElem?_eq_some_iff.1 h1).1
  have ha := h.suffix.2.2.2
  have hac : c ≠ a := by omega
  have hBw := h.size
  have hva : ∀ g, vt.ownBlock = some g -> g < w.heap.size /\ g ≠ a := fun g hg => by have := h3.lt g hg; omega
  have hl : l ≠ [] := fun e => by subst e; cases hk
  have hva2 : vt.ownBlock ≠ some c := own_ne h3 h1 (by decide)
  clear h h1 h2
  go_enter Tryz.func151, Tryz.ntmps151
  go_wp2_with fail
  go_region_law ((first
      | (refine step_append_lies _ (by rfl) _ _ _ (by rfl) B 3 i0 _ 1 8 Tryz.underlying31 hi0 hz0 hz1 hz2 rfl (by omega) vt x.2.2.2.2.2.1.length (ints x.2.2.2.2.2.1) (by rfl) (((k1.undrew.own h3 hva).kept (L2.below_grown b2) (by cases vt.ownBlock <;> simp)).alloc _)
          ⟨w2.heap.size, 0, none⟩ 1 1 [.int .i64 k] (by rfl) (by rfl) one_cell one_one (by omega) (by unfold maxLen; omega) (by omega) (by simp; omega) (w2.heap.size + 1) (by simp) ?_; intro gg cap w3 hown hgrow hat hlt; obtain ⟨c43, z43⟩ := Cel.grown hgrow (by simp; omega) hva2 c4a z4a)
      | (go_simp; go_at_call 112; refine (take_any _ H.out.drew).mono ?_; rintro e w1 ⟨rfl, k1, r1⟩; have s1 : w.heap.size <= w1.heap.size := k1.size; have hcl1 : c < w1.heap.size := Nat.lt_of_lt_of_le hcl s1; obtain ⟨c41, z41⟩ := Cel.kp k1 hcl hac c4 z4)
      | (go_simp; go_at_call 124; refine (labelOf_some hsh hk).mono ?_; rintro e w2 ⟨rfl, b2⟩; have s2 : w1.heap.size <= w2.heap.size := b2.size; obtain ⟨c42, z42⟩ := Cel.below b2 hcl1 c41 z41; obtain ⟨c4a, z4a⟩ := Cel.below (below_box w2 (.cells #[.int .i64 k] 3)) (by omega) c42 z42)))
  all_goals
    refine bodyPost_end0' rfl rfl ⟨rfl, ?_, ?_, ?_⟩
    . exact ((((k1.undrew.andBelow b2).mono hBw).alloc (by omega) _).grown hgrow (by simp; omega) (fun q hq => ⟨(h3.lt q hq).1, (hva q hq).2⟩) (own_not80 (((k1.undrew.own h3 hva).kept (L2.below_grown b2) (by cases vt.ownBlock <;> simp)).alloc _) (by decide))).setCell (.inr ⟨h5, hac⟩) ((((hI.out.kp k1.undrew ha).step b2).step (below_box w2 _)).far80 hgrow hva2) _
    . exact ((((r1 hl).step b2).step (below_box w2 _)).grown hgrow (fun q hq => (h3.lt q hq).1)).set h5 _
    . exact (((hI.out.kp k1.undrew ha).step b2).step (below_box w2 _)).to c4a hown hgrow (by simpa using hat)
theorem value_ok {E : Int} {l : List Tok} {k : Int} (h : G.mark idxF 37 1048576 (peek0 l) = some k) : G.value idxF E l = .ok (k, l.tail) := by
  unfold G.value G.index G.one; rw [h]
theorem value_bad {E : Int} {l : List Tok} (h : G.mark idxF 37 1048576 (peek0 l) = none) : G.value idxF E l = .error (8, atOf E l) := by
  unfold G.value G.index G.one; rw [h]
theorem label_ok {E : Int} {l : List Tok} {k : Int} (h : G.mark idxF 98 255 (peek0 l) = some k) : G.label idxF E l = .ok (k, l.tail) := by
  unfold G.label G.index G.one; rw [h]
theorem label_bad {E : Int} {l : List Tok} (h : G.mark idxF 98 255 (peek0 l) = none) : G.label idxF E l = .error (7, atOf E l) := by
  unfold G.label G.index G.one; rw [h]
theorem value_step {B a c : Nat} {L : List Tok} {E : Int} {n : Nat} {l : List Tok} {x : Ins} (w : World) (h : Rdr B a L E n l w) (hi : InsAt B c x w) (hlen : x.2.2.2.2.1.length <= 131072) :
    Calls Tryz.prog 150 #[.pointer (some ⟨a, 0, none⟩), .pointer (some ⟨c, 0, none⟩)] w (Step B a c L E n (byWord x addArg (G.value idxF E l)) w) := by
  cases hk : G.mark idxF 37 1048576 (peek0 l) with
  | none => exact (value_none w h hi hk).mono fun e w' ⟨h1, h2⟩ => ⟨h2, .inr ⟨_, by rw [value_bad hk]; rfl, h1⟩⟩
  | some k => exact (value_some w h hi hk hlen).mono fun e w' ⟨h1, h2, h3, h4⟩ => ⟨h2, .inl ⟨_, _, by rw [value_ok hk]; rfl, h1, h3, h4⟩⟩
theorem label_step {B a c : Nat} {L : List Tok} {E : Int} {n : Nat} {l : List Tok} {x : Ins} (w : World) (h : Rdr B a L E n l w) (hi : InsAt B c x w) (hlen : x.2.2.2.2.2.1.length <= 131072) :
    Calls Tryz.prog 151 #[.pointer (some ⟨a, 0, none⟩), .pointer (some ⟨c, 0, none⟩)] w (Step B a c L E n (byWord x addTo (G.label idxF E l)) w) := by
  cases hk : G.mark idxF 98 255 (peek0 l) with
  | none => exact (label_none w h hi hk).mono fun e w' ⟨h1, h2⟩ => ⟨h2, .inr ⟨_, by rw [label_bad hk]; rfl, h1⟩⟩
  | some k => exact (label_some w h hi hk hlen).mono fun e w' ⟨h1, h2, h3, h4⟩ => ⟨h2, .inl ⟨_, _, by rw [label_ok hk]; rfl, h1, h3, h4⟩⟩
end Go.Proofs.YtahhbckccdigoaaGreatDoor
