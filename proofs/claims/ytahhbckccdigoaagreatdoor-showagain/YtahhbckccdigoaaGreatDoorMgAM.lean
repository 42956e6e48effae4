/- The ways of each operation read what the grammar says. -/
import Derived.Test.YtahhbckccdigoaaGreatDoorMgAK
import Derived.Test.YtahhbckccdigoaaGreatDoorMgAL
set_option maxHeartbeats 8000000
set_option maxRecDepth 20000
namespace Go.Proofs.YtahhbckccdigoaaGreatDoor
open Go Go.RowKit
open G (Tok Er Ins Fun peek0 peek1 atOf)
theorem then_assoc {α β γ : Type} (x : Except Er (α × List Tok)) (f : α -> G.Rd β) (g : β -> G.Rd γ) : G.andThen (G.andThen x f) g = G.andThen x fun v r => G.andThen (f v r) g := by
  cases x with
  | error e => rfl
  | ok p => rfl
theorem then_ok {α β : Type} (v : α) (l : List Tok) (f : α -> G.Rd β) : G.andThen (.ok (v, l)) f = f v l := rfl
theorem then_congr {α β : Type} {x : Except Er (α × List Tok)} {f g : α -> G.Rd β} (h : ∀ v r, x = .ok (v, r) -> f v r = g v r) : G.andThen x f = G.andThen x g := by
  cases x with
  | error e => rfl
  | ok p => exact h p.1 p.2 rfl
def fill (x : Ins) (y : G.Opd) : Ins := (x.1, x.2.1, y.1, x.2.2.2.1, y.2.1, y.2.2.1, y.2.2.2, x.2.2.2.2.2.2.2)
abbrev opsG (E op : Int) : G.Rd G.Opd := G.operands numF idxF namF shpF tksF E op
abbrev bare (op id ty p : Int) : Ins := (op, id, 0, ty, [], [], [], p)
theorem moreV_eq {E : Int} : ∀ (f f' : Nat) (x : Ins) (l : List Tok), l.length < f -> l.length < f' -> moreV E f x l = G.andThen (G.valuesW idxF E f' x.2.2.2.2.1 l) fun a r => .ok ((x.1, x.2.1, x.2.2.1, x.2.2.2.1, a, x.2.2.2.2.2.1, x.2.2.2.2.2.2.1, x.2.2.2.2.2.2.2), r) := by
  intro f
  induction f with
  | zero => intro f' x l h; omega
  | succ f ih =>
    intro f' x l h h'
    obtain ⟨f', rfl⟩ : ∃ k, f' = k + 1 := ⟨f' - 1, by omega⟩
    cases ht : G.taken l with
    | false => rw [moreV_stop ht]; unfold G.valuesW; rw [ht]; rfl
    | true =>
      conv => lhs; unfold moreV
      conv => rhs; unfold G.valuesW
      rw [ht, if_pos rfl, if_pos rfl]
      unfold valueW byWord
      rw [then_assoc, then_assoc]
      refine then_congr fun v r hv => ?_
      obtain ⟨h1, h2, _⟩ := G.value_ok hv
      have := tail_bulk h1
      show moreV E f (addArg x v) r = _
      rw [ih f' (addArg x v) r (by rw [h2]; omega) (by rw [h2]; omega)]
      rfl
theorem pairV_eq {E : Int} : ∀ (f f' : Nat) (x : Ins) (l : List Tok), l.length < f -> l.length < f' -> x.2.2.2.2.2.1 ≠ [] -> pairV E f x l = G.andThen (G.phiW idxF E f' x.2.2.2.2.2.1 x.2.2.2.2.1 l) fun a r => .ok ((x.1, x.2.1, x.2.2.1, x.2.2.2.1, a.2, a.1, x.2.2.2.2.2.2.1, x.2.2.2.2.2.2.2), r) := by
  intro f
  induction f with
  | zero => intro f' x l h; omega
  | succ f ih =>
    intro f' x l h h' hx
    obtain ⟨f', rfl⟩ : ∃ k, f' = k + 1 := ⟨f' - 1, by omega⟩
    cases ht : G.paired l with
    | false => rw [pairV_stop ht]; unfold G.phiW; rw [if_neg (by simp [ht, hx])]; rfl
    | true =>
      conv => lhs; unfold pairV
      conv => rhs; unfold G.phiW
      rw [ht, if_pos rfl, if_pos (.inr rfl)]
      unfold labelW byWord
      rw [then_assoc, then_assoc]
      refine then_congr fun b r hb => ?_
      obtain ⟨h1, h2, _⟩ := G.label_ok hb
      have := tail_bulk h1
      show (G.andThen (valueW E (addTo x b) r) fun x'' l'' => pairV E f x'' l'') = G.andThen (G.andThen (G.value idxF E r) _) _
      unfold valueW byWord
      rw [then_assoc, then_assoc]
      refine then_congr fun v q hv => ?_
      obtain ⟨h3, h4, _⟩ := G.value_ok hv
      have := tail_bulk h3
      show pairV E f (addArg (addTo x b) v) q = _
      rw [ih f' (addArg (addTo x b) v) q (by rw [h4]; rw [h2] at *; omega) (by rw [h4]; rw [h2] at *; omega) (by simp [addArg, addTo])]
      rfl
theorem ops_1 (E id ty p : Int) (l : List Tok) : runW E (waysN 1) (bare 1 id ty p) l = G.andThen (opsG E 1 l) fun y r => .ok (fill (bare 1 id ty p) y, r) := by
  show G.andThen (numberW E (bare 1 id ty p) l) (fun x1 l1 => .ok (x1, l1)) = G.andThen (G.andThen (G.anyNum numF E l) (fun v1 r1 => G.done (v1, [], [], []) r1)) _
  simp only [numberW, byWord, then_assoc, then_ok, G.done]
  rfl
theorem ops_10 (E id ty p : Int) (l : List Tok) : runW E (waysN 10) (bare 10 id ty p) l = G.andThen (opsG E 10 l) fun y r => .ok (fill (bare 10 id ty p) y, r) := by
  show G.andThen (lettersW E (bare 10 id ty p) l) (fun x1 l1 => .ok (x1, l1)) = G.andThen (G.andThen (G.shaped shpF E l) (fun v1 r1 => G.done (0, [], [], v1) r1)) _
  simp only [lettersW, byWord, then_assoc, then_ok, G.done]
  rfl
theorem ops_11 (E id ty p : Int) (l : List Tok) : runW E (waysN 11) (bare 11 id ty p) l = G.andThen (opsG E 11 l) fun y r => .ok (fill (bare 11 id ty p) y, r) := by
  show G.andThen (valueW E (bare 11 id ty p) l) (fun x1 l1 => G.andThen (uptoW E 15 x1 l1) (fun x2 l2 => .ok (x2, l2))) = G.andThen (G.andThen (G.value idxF E l) (fun v1 r1 => G.andThen (G.number numF E 0 15 r1) (fun v2 r2 => G.done (v2, [v1], [], []) r2))) _
  simp only [uptoW, valueW, byWord, then_assoc, then_ok, G.done]
  rfl
theorem ops_12 (E id ty p : Int) (l : List Tok) : runW E (waysN 12) (bare 12 id ty p) l = G.andThen (opsG E 12 l) fun y r => .ok (fill (bare 12 id ty p) y, r) := by
  show G.andThen (valueW E (bare 12 id ty p) l) (fun x1 l1 => G.andThen (uptoW E 15 x1 l1) (fun x2 l2 => .ok (x2, l2))) = G.andThen (G.andThen (G.value idxF E l) (fun v1 r1 => G.andThen (G.number numF E 0 15 r1) (fun v2 r2 => G.done (v2, [v1], [], []) r2))) _
  simp only [uptoW, valueW, byWord, then_assoc, then_ok, G.done]
  rfl
theorem ops_13 (E id ty p : Int) (l : List Tok) : runW E (waysN 13) (bare 13 id ty p) l = G.andThen (opsG E 13 l) fun y r => .ok (fill (bare 13 id ty p) y, r) := by
  show G.andThen (valueW E (bare 13 id ty p) l) (fun x1 l1 => G.andThen (uptoW E 15 x1 l1) (fun x2 l2 => G.andThen (valueW E x2 l2) (fun x3 l3 => .ok (x3, l3)))) = G.andThen (G.andThen (G.value idxF E l) (fun v1 r1 => G.andThen (G.number numF E 0 15 r1) (fun v2 r2 => G.andThen (G.value idxF E r2) (fun v3 r3 => G.done (v2, [v1, v3], [], []) r3)))) _
  simp only [uptoW, valueW, byWord, then_assoc, then_ok, G.done]
  rfl
theorem ops_14 (E id ty p : Int) (l : List Tok) : runW E (waysN 14) (bare 14 id ty p) l = G.andThen (opsG E 14 l) fun y r => .ok (fill (bare 14 id ty p) y, r) := by
  show G.andThen (valueW E (bare 14 id ty p) l) (fun x1 l1 => G.andThen (uptoW E 15 x1 l1) (fun x2 l2 => G.andThen (valueW E x2 l2) (fun x3 l3 => .ok (x3, l3)))) = G.andThen (G.andThen (G.value idxF E l) (fun v1 r1 => G.andThen (G.number numF E 0 15 r1) (fun v2 r2 => G.andThen (G.value idxF E r2) (fun v3 r3 => G.done (v2, [v1, v3], [], []) r3)))) _
  simp only [uptoW, valueW, byWord, then_assoc, then_ok, G.done]
  rfl
theorem ops_15 (E id ty p : Int) (l : List Tok) : runW E (waysN 15) (bare 15 id ty p) l = G.andThen (opsG E 15 l) fun y r => .ok (fill (bare 15 id ty p) y, r) := by
  show G.andThen (valueW E (bare 15 id ty p) l) (fun x1 l1 => G.andThen (uptoW E 15 x1 l1) (fun x2 l2 => .ok (x2, l2))) = G.andThen (G.andThen (G.value idxF E l) (fun v1 r1 => G.andThen (G.number numF E 0 15 r1) (fun v2 r2 => G.done (v2, [v1], [], []) r2))) _
  simp only [uptoW, valueW, byWord, then_assoc, then_ok, G.done]
  rfl
theorem ops_23 (E id ty p : Int) (l : List Tok) : runW E (waysN 23) (bare 23 id ty p) l = G.andThen (opsG E 23 l) fun y r => .ok (fill (bare 23 id ty p) y, r) := by
  show G.andThen (uptoW E 1048576 (bare 23 id ty p) l) (fun x1 l1 => .ok (x1, l1)) = G.andThen (G.andThen (G.number numF E 0 1048576 l) (fun v1 r1 => G.done (v1, [], [], []) r1)) _
  simp only [uptoW, byWord, then_assoc, then_ok, G.done]
  rfl
theorem ops_24 (E id ty p : Int) (l : List Tok) : runW E (waysN 24) (bare 24 id ty p) l = G.andThen (opsG E 24 l) fun y r => .ok (fill (bare 24 id ty p) y, r) := by
  show G.andThen (valueW E (bare 24 id ty p) l) (fun x1 l1 => G.andThen (uptoW E 1048576 x1 l1) (fun x2 l2 => .ok (x2, l2))) = G.andThen (G.andThen (G.value idxF E l) (fun v1 r1 => G.andThen (G.number numF E 0 1048576 r1) (fun v2 r2 => G.done (v2, [v1], [], []) r2))) _
  simp only [uptoW, valueW, byWord, then_assoc, then_ok, G.done]
  rfl
theorem ops_26 (E id ty p : Int) (l : List Tok) : runW E (waysN 26) (bare 26 id ty p) l = G.andThen (opsG E 26 l) fun y r => .ok (fill (bare 26 id ty p) y, r) := by
  show G.andThen (labelW E (bare 26 id ty p) l) (fun x1 l1 => .ok (x1, l1)) = G.andThen (G.andThen (G.label idxF E l) (fun v1 r1 => G.done (0, [], [v1], []) r1)) _
  simp only [labelW, byWord, then_assoc, then_ok, G.done]
  rfl
theorem ops_27 (E id ty p : Int) (l : List Tok) : runW E (waysN 27) (bare 27 id ty p) l = G.andThen (opsG E 27 l) fun y r => .ok (fill (bare 27 id ty p) y, r) := by
  show G.andThen (valueW E (bare 27 id ty p) l) (fun x1 l1 => G.andThen (labelW E x1 l1) (fun x2 l2 => G.andThen (labelW E x2 l2) (fun x3 l3 => .ok (x3, l3)))) = G.andThen (G.andThen (G.value idxF E l) (fun v1 r1 => G.andThen (G.label idxF E r1) (fun v2 r2 => G.andThen (G.label idxF E r2) (fun v3 r3 => G.done (0, [v1], [v2, v3], []) r3)))) _
  simp only [labelW, valueW, byWord, then_assoc, then_ok, G.done]
  rfl
theorem ops_29 (E id ty p : Int) (l : List Tok) : runW E (waysN 29) (bare 29 id ty p) l = G.andThen (opsG E 29 l) fun y r => .ok (fill (bare 29 id ty p) y, r) := by
  show G.andThen (uptoW E 255 (bare 29 id ty p) l) (fun x1 l1 => .ok (x1, l1)) = G.andThen (G.andThen (G.number numF E 0 255 l) (fun v1 r1 => G.done (v1, [], [], []) r1)) _
  simp only [uptoW, byWord, then_assoc, then_ok, G.done]
  rfl
theorem ops_2 (E id ty p : Int) (l : List Tok) : runW E (waysN 2) (bare 2 id ty p) l = G.andThen (opsG E 2 l) fun y r => .ok (fill (bare 2 id ty p) y, r) := by
  have e : opsG E 2 l = G.andThen (G.valuesN idxF E 2 [] l) fun a => G.done (0, a, [], []) := by
    have h : tksF 2 = 2 := by decide
    rw [<- h]; rfl
  rw [e]
  show G.andThen (valueW E (bare 2 id ty p) l) (fun x1 l1 => G.andThen (valueW E x1 l1) (fun x2 l2 => .ok (x2, l2))) = _
  simp only [valueW, byWord, then_assoc, then_ok, G.done, G.valuesN]
  rfl
theorem ops_3 (E id ty p : Int) (l : List Tok) : runW E (waysN 3) (bare 3 id ty p) l = G.andThen (opsG E 3 l) fun y r => .ok (fill (bare 3 id ty p) y, r) := by
  have e : opsG E 3 l = G.andThen (G.valuesN idxF E 2 [] l) fun a => G.done (0, a, [], []) := by
    have h : tksF 3 = 2 := by decide
    rw [<- h]; rfl
  rw [e]
  show G.andThen (valueW E (bare 3 id ty p) l) (fun x1 l1 => G.andThen (valueW E x1 l1) (fun x2 l2 => .ok (x2, l2))) = _
  simp only [valueW, byWord, then_assoc, then_ok, G.done, G.valuesN]
  rfl
theorem ops_4 (E id ty p : Int) (l : List Tok) : runW E (waysN 4) (bare 4 id ty p) l = G.andThen (opsG E 4 l) fun y r => .ok (fill (bare 4 id ty p) y, r) := by
  have e : opsG E 4 l = G.andThen (G.valuesN idxF E 2 [] l) fun a => G.done (0, a, [], []) := by
    have h : tksF 4 = 2 := by decide
    rw [<- h]; rfl
  rw [e]
  show G.andThen (valueW E (bare 4 id ty p) l) (fun x1 l1 => G.andThen (valueW E x1 l1) (fun x2 l2 => .ok (x2, l2))) = _
  simp only [valueW, byWord, then_assoc, then_ok, G.done, G.valuesN]
  rfl
theorem ops_5 (E id ty p : Int) (l : List Tok) : runW E (waysN 5) (bare 5 id ty p) l = G.andThen (opsG E 5 l) fun y r => .ok (fill (bare 5 id ty p) y, r) := by
  have e : opsG E 5 l = G.andThen (G.valuesN idxF E 2 [] l) fun a => G.done (0, a, [], []) := by
    have h : tksF 5 = 2 := by decide
    rw [<- h]; rfl
  rw [e]
  show G.andThen (valueW E (bare 5 id ty p) l) (fun x1 l1 => G.andThen (valueW E x1 l1) (fun x2 l2 => .ok (x2, l2))) = _
  simp only [valueW, byWord, then_assoc, then_ok, G.done, G.valuesN]
  rfl
theorem ops_6 (E id ty p : Int) (l : List Tok) : runW E (waysN 6) (bare 6 id ty p) l = G.andThen (opsG E 6 l) fun y r => .ok (fill (bare 6 id ty p) y, r) := by
  have e : opsG E 6 l = G.andThen (G.valuesN idxF E 2 [] l) fun a => G.done (0, a, [], []) := by
    have h : tksF 6 = 2 := by decide
    rw [<- h]; rfl
  rw [e]
  show G.andThen (valueW E (bare 6 id ty p) l) (fun x1 l1 => G.andThen (valueW E x1 l1) (fun x2 l2 => .ok (x2, l2))) = _
  simp only [valueW, byWord, then_assoc, then_ok, G.done, G.valuesN]
  rfl
theorem ops_7 (E id ty p : Int) (l : List Tok) : runW E (waysN 7) (bare 7 id ty p) l = G.andThen (opsG E 7 l) fun y r => .ok (fill (bare 7 id ty p) y, r) := by
  have e : opsG E 7 l = G.andThen (G.valuesN idxF E 2 [] l) fun a => G.done (0, a, [], []) := by
    have h : tksF 7 = 2 := by decide
    rw [<- h]; rfl
  rw [e]
  show G.andThen (valueW E (bare 7 id ty p) l) (fun x1 l1 => G.andThen (valueW E x1 l1) (fun x2 l2 => .ok (x2, l2))) = _
  simp only [valueW, byWord, then_assoc, then_ok, G.done, G.valuesN]
  rfl
theorem ops_8 (E id ty p : Int) (l : List Tok) : runW E (waysN 8) (bare 8 id ty p) l = G.andThen (opsG E 8 l) fun y r => .ok (fill (bare 8 id ty p) y, r) := by
  have e : opsG E 8 l = G.andThen (G.valuesN idxF E 0 [] l) fun a => G.done (0, a, [], []) := by
    have h : tksF 8 = 0 := by decide
    rw [<- h]; rfl
  rw [e]
  show (.ok (bare 8 id ty p, l) : Except Er (Ins × List Tok)) = _
  simp only [then_ok, G.done, G.valuesN]
  rfl
theorem ops_9 (E id ty p : Int) (l : List Tok) : runW E (waysN 9) (bare 9 id ty p) l = G.andThen (opsG E 9 l) fun y r => .ok (fill (bare 9 id ty p) y, r) := by
  have e : opsG E 9 l = G.andThen (G.valuesN idxF E 2 [] l) fun a => G.done (0, a, [], []) := by
    have h : tksF 9 = 2 := by decide
    rw [<- h]; rfl
  rw [e]
  show G.andThen (valueW E (bare 9 id ty p) l) (fun x1 l1 => G.andThen (valueW E x1 l1) (fun x2 l2 => .ok (x2, l2))) = _
  simp only [valueW, byWord, then_assoc, then_ok, G.done, G.valuesN]
  rfl
theorem ops_16 (E id ty p : Int) (l : List Tok) : runW E (waysN 16) (bare 16 id ty p) l = G.andThen (opsG E 16 l) fun y r => .ok (fill (bare 16 id ty p) y, r) := by
  have e : opsG E 16 l = G.andThen (G.valuesN idxF E 1 [] l) fun a => G.done (0, a, [], []) := by
    have h : tksF 16 = 1 := by decide
    rw [<- h]; rfl
  rw [e]
  show G.andThen (valueW E (bare 16 id ty p) l) (fun x1 l1 => .ok (x1, l1)) = _
  simp only [valueW, byWord, then_assoc, then_ok, G.done, G.valuesN]
  rfl
theorem ops_17 (E id ty p : Int) (l : List Tok) : runW E (waysN 17) (bare 17 id ty p) l = G.andThen (opsG E 17 l) fun y r => .ok (fill (bare 17 id ty p) y, r) := by
  have e : opsG E 17 l = G.andThen (G.valuesN idxF E 1 [] l) fun a => G.done (0, a, [], []) := by
    have h : tksF 17 = 1 := by decide
    rw [<- h]; rfl
  rw [e]
  show G.andThen (valueW E (bare 17 id ty p) l) (fun x1 l1 => .ok (x1, l1)) = _
  simp only [valueW, byWord, then_assoc, then_ok, G.done, G.valuesN]
  rfl
theorem ops_18 (E id ty p : Int) (l : List Tok) : runW E (waysN 18) (bare 18 id ty p) l = G.andThen (opsG E 18 l) fun y r => .ok (fill (bare 18 id ty p) y, r) := by
  have e : opsG E 18 l = G.andThen (G.valuesN idxF E 2 [] l) fun a => G.done (0, a, [], []) := by
    have h : tksF 18 = 2 := by decide
    rw [<- h]; rfl
  rw [e]
  show G.andThen (valueW E (bare 18 id ty p) l) (fun x1 l1 => G.andThen (valueW E x1 l1) (fun x2 l2 => .ok (x2, l2))) = _
  simp only [valueW, byWord, then_assoc, then_ok, G.done, G.valuesN]
  rfl
theorem ops_19 (E id ty p : Int) (l : List Tok) : runW E (waysN 19) (bare 19 id ty p) l = G.andThen (opsG E 19 l) fun y r => .ok (fill (bare 19 id ty p) y, r) := by
  have e : opsG E 19 l = G.andThen (G.valuesN idxF E 2 [] l) fun a => G.done (0, a, [], []) := by
    have h : tksF 19 = 2 := by decide
    rw [<- h]; rfl
  rw [e]
  show G.andThen (valueW E (bare 19 id ty p) l) (fun x1 l1 => G.andThen (valueW E x1 l1) (fun x2 l2 => .ok (x2, l2))) = _
  simp only [valueW, byWord, then_assoc, then_ok, G.done, G.valuesN]
  rfl
theorem ops_22 (E id ty p : Int) (l : List Tok) : runW E (waysN 22) (bare 22 id ty p) l = G.andThen (opsG E 22 l) fun y r => .ok (fill (bare 22 id ty p) y, r) := by
  have e : opsG E 22 l = G.andThen (G.valuesN idxF E 1 [] l) fun a => G.done (0, a, [], []) := by
    have h : tksF 22 = 1 := by decide
    rw [<- h]; rfl
  rw [e]
  show G.andThen (valueW E (bare 22 id ty p) l) (fun x1 l1 => .ok (x1, l1)) = _
  simp only [valueW, byWord, then_assoc, then_ok, G.done, G.valuesN]
  rfl
theorem ops_25 (E id ty p : Int) (l : List Tok) : runW E (waysN 25) (bare 25 id ty p) l = G.andThen (opsG E 25 l) fun y r => .ok (fill (bare 25 id ty p) y, r) := by
  have e : opsG E 25 l = G.andThen (G.valuesN idxF E 1 [] l) fun a => G.done (0, a, [], []) := by
    have h : tksF 25 = 1 := by decide
    rw [<- h]; rfl
  rw [e]
  show G.andThen (valueW E (bare 25 id ty p) l) (fun x1 l1 => .ok (x1, l1)) = _
  simp only [valueW, byWord, then_assoc, then_ok, G.done, G.valuesN]
  rfl
theorem ops_28 (E id ty p : Int) (l : List Tok) : runW E (waysN 28) (bare 28 id ty p) l = G.andThen (opsG E 28 l) fun y r => .ok (fill (bare 28 id ty p) y, r) := by
  show G.andThen (perhapsValueW E (bare 28 id ty p) l) (fun x1 l1 => .ok (x1, l1)) = G.andThen (G.ret1 idxF E l) _
  unfold perhapsValueW G.ret1
  cases ht : G.taken l with
  | false => rfl
  | true =>
    rw [if_pos rfl, if_pos rfl]
    simp only [valueW, byWord, then_assoc, then_ok, G.done]
    rfl
theorem spot_eq (E : Int) (x : Ins) (l : List Tok) (hx : x.2.2.1 = 0) : perhapsPointW E x l = G.andThen (G.spot idxF E l) fun n r => .ok (setN x n, r) := by
  unfold perhapsPointW G.spot begins
  by_cases h : (peek0 l).head? = some 64
  · rw [if_pos (by simpa using h), if_pos h]; rfl
  · rw [if_neg (by simpa using h), if_neg h]
    show _ = Except.ok (setN x 0, l)
    rw [show setN x 0 = x from by unfold setN; rw [<- hx]]
theorem ops_21 (E id ty p : Int) (l : List Tok) : runW E (waysN 21) (bare 21 id ty p) l = G.andThen (opsG E 21 l) fun y r => .ok (fill (bare 21 id ty p) y, r) := by
  show G.andThen (perhapsPointW E (bare 21 id ty p) l) (fun x1 l1 => G.andThen (calleeW E x1 l1) (fun x2 l2 => G.andThen (moreValuesW E x2 l2) (fun x3 l3 => .ok (x3, l3)))) = G.andThen (G.andThen (G.spot idxF E l) fun n r => G.andThen (G.name namF E r) fun s r => G.andThen (G.values idxF E r) fun a => G.done (n, a, [], s)) _
  rw [spot_eq E _ l rfl]
  simp only [calleeW, byWord, then_assoc, then_ok, G.done]
  refine then_congr fun n r _ => then_congr fun s r2 _ => ?_
  show G.andThen (moreV E (r2.length + 1) _ r2) _ = G.andThen (G.valuesW idxF E (r2.length + 1) [] r2) _
  rw [moreV_eq (r2.length + 1) (r2.length + 1) _ r2 (by omega) (by omega), then_assoc]
  rfl
theorem ops_20 (E id ty p : Int) (l : List Tok) : runW E (waysN 20) (bare 20 id ty p) l = G.andThen (opsG E 20 l) fun y r => .ok (fill (bare 20 id ty p) y, r) := by
  show G.andThen (labelW E (bare 20 id ty p) l) (fun x1 l1 => G.andThen (valueW E x1 l1) (fun x2 l2 => G.andThen (morePairsW E x2 l2) (fun x3 l3 => .ok (x3, l3)))) = G.andThen (G.andThen (G.phiW idxF E (l.length + 1) [] [] l) fun x => G.done (0, x.2, x.1, [])) _
  conv => rhs; unfold G.phiW
  rw [if_pos (.inl rfl)]
  simp only [labelW, valueW, byWord, then_assoc, then_ok, G.done]
  refine then_congr fun b r hb => then_congr fun v r2 hv => ?_
  obtain ⟨h1, h2, _⟩ := G.label_ok hb
  obtain ⟨h3, h4, _⟩ := G.value_ok hv
  have t1 := tail_bulk h1
  have t2 := tail_bulk h3
  show G.andThen (pairV E (r2.length + 1) _ r2) _ = G.andThen (G.phiW idxF E l.length [b] [v] r2) _
  rw [pairV_eq (r2.length + 1) l.length _ r2 (by omega) (by rw [h4]; rw [h2] at *; omega) (by simp [addArg, addTo]), then_assoc]
  rfl
theorem ops_eq (E op id ty p : Int) (l : List Tok) (ho : 1 <= op /\ op <= 29) : runW E (waysN op) (bare op id ty p) l = G.andThen (opsG E op l) fun y r => .ok (fill (bare op id ty p) y, r) := by
  obtain rfl | rfl | rfl | rfl | rfl | rfl | rfl | rfl | rfl | rfl | rfl | rfl | rfl | rfl | rfl | rfl | rfl | rfl | rfl | rfl | rfl | rfl | rfl | rfl | rfl | rfl | rfl | rfl | rfl : op = 1 \/ op = 2 \/ op = 3 \/ op = 4 \/ op = 5 \/ op = 6 \/ op = 7 \/ op = 8 \/ op = 9 \/ op = 10 \/ op = 11 \/ op = 12 \/ op = 13 \/ op = 14 \/ op = 15 \/ op = 16 \/ op = 17 \/ op = 18 \/ op = 19 \/ op = 20 \/ op = 21 \/ op = 22 \/ op = 23 \/ op = 24 \/ op = 25 \/ op = 26 \/ op = 27 \/ op = 28 \/ op = 29 := by omega
  · exact ops_1 E id ty p l
  · exact ops_2 E id ty p l
  · exact ops_3 E id ty p l
  · exact ops_4 E id ty p l
  · exact ops_5 E id ty p l
  · exact ops_6 E id ty p l
  · exact ops_7 E id ty p l
  · exact ops_8 E id ty p l
  · exact ops_9 E id ty p l
  · exact ops_10 E id ty p l
  · exact ops_11 E id ty p l
  · exact ops_12 E id ty p l
  · exact ops_13 E id ty p l
  · exact ops_14 E id ty p l
  · exact ops_15 E id ty p l
  · exact ops_16 E id ty p l
  · exact ops_17 E id ty p l
  · exact ops_18 E id ty p l
  · exact ops_19 E id ty p l
  · exact ops_20 E id ty p l
  · exact ops_21 E id ty p l
  · exact ops_22 E id ty p l
  · exact ops_23 E id ty p l
  · exact ops_24 E id ty p l
  · exact ops_25 E id ty p l
  · exact ops_26 E id ty p l
  · exact ops_27 E id ty p l
  · exact ops_28 E id ty p l
  · exact ops_29 E id ty p l
theorem instr_eq (E : Int) (l : List Tok) : G.instr numF idxF namF shpF tksF fndF mksF E l = instrP E l := by
  unfold G.instr G.instrA G.start instrP instrQ
  rw [then_assoc]
  refine then_congr fun id r _ => ?_
  show G.andThen (G.andThen (G.opword fndF mksF E id r) fun o => G.done (id, o.1, o.2)) _ = _
  rw [then_assoc]
  refine then_congr fun o r2 ho => ?_
  have hz : o.1 ≠ 0 /\ o = fndF (peek0 r) := by
    obtain ⟨h1, h2, h3, h4, _⟩ := G.opword_ok fnd_nil ho
    exact ⟨h4, h3⟩
  have hr : 1 <= o.1 /\ o.1 <= 29 := by
    rcases fnd_range (peek0 r) with h | h
    · rw [<- hz.2] at h; exact absurd h hz.1
    · rw [<- hz.2] at h; exact h
  show G.andThen (opsG E o.1 r2) _ = _
  rw [ops_eq E o.1 id o.2 (atOf E l) r2 hr]
  rfl
end Go.Proofs.YtahhbckccdigoaaGreatDoor
namespace Go.Proofs.YtahhbckccdigoaaGreatDoor
open Go Go.RowKit
open G (Tok Er Ins Fun peek0 peek1 atOf)
theorem own_kp {B a b e s n : Nat} {v : Value} {xs : List Value} {u w : World} (ho : u.ownsRow b e s v n xs) (h : Kp B a u w) (hv : ∀ g, v.ownBlock = some g -> g < B /\ g ≠ a) : w.ownsRow b e s v n xs := h.own ho hv
theorem own_len {w : World} {b e s n : Nat} {v : Value} {xs : List Value} (h : w.ownsRow b e s v n xs) : ∃ (ao : Option Addr) (cap : Nat), v = .slice ao n cap := by
  rcases h.2 with ⟨hv, hn⟩ | ⟨g, cap, cur, hv, _⟩
  · exact ⟨none, 0, by rw [hv, hn]⟩
  · exact ⟨_, _, hv⟩
theorem two_new' (w : World) (o : Obj) : w.heap.size + 1 < ((w.alloc o).alloc (.cells #[.int .i64 1, .int .i64 2] 3)).heap.size /\ ∀ (k : Nat) (t : Int), [(1 : Int), 2][k]? = some t -> ((w.alloc o).alloc (.cells #[.int .i64 1, .int .i64 2] 3)).cell? ⟨w.heap.size + 1, k, none⟩ = some (.int .i64 t) := by
  have e : (w.alloc o).heap.size = w.heap.size + 1 := by simp
  refine ⟨by simp, fun k t h => ?_⟩
  rw [<- e]
  match k, h with
  | 0, h => simp at h; subst h; simp [go_sem]
  | 1, h => simp at h; subst h; simp [go_sem]
theorem parW_stop {E : Int} {f : Nat} {acc : List Int} {l : List Tok} (h : peek0 l = [41]) : G.parW E (f + 1) acc l = .ok (acc, l) := by
  unfold G.parW; rw [if_pos h]
theorem param_type {E : Int} {k : Nat} {l : List Tok} (h : twoKind (peek0 l) = none) : G.param E k l = .error (9, atOf E l) := by
  have h1 : G.kind (peek0 l) < 1 := by
    unfold twoKind at h
    split at h
    · assumption
    · cases h
  refine (one_none (if_pos (.inl h1))).trans ?_
  show Except.error ((if G.kind (peek0 l) < 1 then (9 : Int) else 6), atOf E l) = _
  rw [if_pos h1]
theorem param_many {E t : Int} {k : Nat} {l : List Tok} (h : twoKind (peek0 l) = some t) (hk : 8 <= k) : G.param E k l = .error (6, atOf E l) := by
  have h1 : ¬ G.kind (peek0 l) < 1 := by
    unfold twoKind at h
    split at h
    · cases h
    · assumption
  refine (one_none (if_pos (.inr hk))).trans ?_
  show Except.error ((if G.kind (peek0 l) < 1 then (9 : Int) else 6), atOf E l) = _
  rw [if_neg h1]
theorem param_good {E t : Int} {k : Nat} {l : List Tok} (h : twoKind (peek0 l) = some t) (hk : k < 8) : G.param E k l = .ok (t, l.tail) := by
  unfold twoKind at h
  split at h
  · cases h
  · rename_i h1
    cases h
    exact one_some (if_neg (by omega))
theorem parW_bad {E : Int} {f : Nat} {acc : List Int} {l : List Tok} {er : Er} (h : ¬ peek0 l = [41]) (hp : G.param E acc.length l = .error er) : G.parW E (f + 1) acc l = .error er := by
  unfold G.parW; rw [if_neg h, hp]; rfl
theorem parW_go {E t : Int} {f : Nat} {acc : List Int} {l l' : List Tok} (h : ¬ peek0 l = [41]) (hp : G.param E acc.length l = .ok (t, l')) : G.parW E (f + 1) acc l = G.parW E f (acc ++ [t]) l' := by
  conv => lhs; unfold G.parW
  rw [if_neg h, hp]; rfl
theorem two_ne {l : List Tok} {t : Int} (h : twoKind (peek0 l) = some t) : l ≠ [] := fun e => by subst e; cases h
theorem typeOf_some {s : List UInt8} {p t : Int} {x : Nat} {w : World} (hx : x < w.heap.size /\ ∀ k t, [(1 : Int), 2][k]? = some t -> w.cell? ⟨x, k, none⟩ = some (.int .i64 t)) (h : twoKind s = some t) : Calls Tryz.prog 111 #[.agg #[.string (bs s), .int .i64 p], .slice (some ⟨x, 0, none⟩) 2 2] w fun e w' => e = .returned (.int .i64 t) /\ Below w.heap.size w w' :=
  (typeOf_two s p x w hx).mono fun e w' ⟨hb, hh⟩ => by
    rcases hh with ⟨x, hx, rfl⟩ | ⟨hx, _⟩
    · rw [h] at hx; cases hx; exact ⟨rfl, hb⟩
    · rw [h] at hx; cases hx
theorem typeOf_none {s : List UInt8} {p : Int} {x : Nat} {w : World} (hx : x < w.heap.size /\ ∀ k t, [(1 : Int), 2][k]? = some t -> w.cell? ⟨x, k, none⟩ = some (.int .i64 t)) (h : twoKind s = none) : Calls Tryz.prog 111 #[.agg #[.string (bs s), .int .i64 p], .slice (some ⟨x, 0, none⟩) 2 2] w fun e w' => e = thrown 9 p /\ Below w.heap.size w w' :=
  (typeOf_two s p x w hx).mono fun e w' ⟨hb, hh⟩ => by
    rcases hh with ⟨x, hx, _⟩ | ⟨_, rfl⟩
    · rw [h] at hx; cases hx
    · exact ⟨rfl, hb⟩
def OutL (B a : Nat) (L : List Tok) (E : Int) (n : Nat) (r : Except Er (List Int × List Tok)) (w : World) (e : Ending) (w' : World) : Prop :=
  Kp w.heap.size a w w' /\ ((∃ x l' v, r = .ok (x, l') /\ e = .returned v /\ w'.ownsRow w.heap.size 3 1 v x.length (ints x) /\ Rdr B a L E n l' w') \/ ∃ er : Er, r = .error er /\ e = thrown er.1 er.2)
theorem params_any {B a : Nat} {L : List Tok} {E : Int} {n : Nat} {l : List Tok} (w : World) (h : Rdr B a L E n l w) :
    Calls Tryz.prog 110 #[.pointer (some ⟨a, 0, none⟩)] w (OutL B a L E n (G.params E l) w) := by
  obtain ⟨i0, hi0, hz0, hz1, hz2⟩ := info_parts Tryz.info3
  have hfd := field_tok
  have H := hide h
  have ha := h.suffix.2.2.2
  have hBw := h.size
  clear h
  go_enter Tryz.func110, Tryz.ntmps110
  go_wp2_with fail
  go_loopw [3] (fun v wr => ∃ (f : Nat) (acc : List Int) (l' : List Tok), wr.ownsRow w.heap.size 3 1 v acc.length (ints acc) /\ acc.length <= 8 /\ Rdr B a L E n l' wr /\ Kp w.heap.size a w wr /\ l'.length < f /\ Hid (G.params E l = G.parW E f acc l')) (fun _ wr => L.length - readAt a wr)
  case atStart => exact ⟨l.length + 1, [], l, World.ownsRow_nil _ _ _ _, by simp, H.out, Kp.refl _ _ _, by omega, rfl⟩
  case round =>
    obtain ⟨f, acc, l', hO, h8, H1, K1, hlf, HM⟩ := hrel
    have hra := H1.readAt
    have hll := H1.suffix.1.length_le
    have hs := K1.size
    obtain ⟨ao3, cap3, rfl⟩ := own_len hO
    have hO := hide hO
    have H1 := hide H1
    have K1 := hide K1
    obtain ⟨f, rfl⟩ : ∃ q, f = q + 1 := ⟨f - 1, by omega⟩
    have HN1 := hide (is_text (peek0 l') [41])
    go_wp2_with fail
    refine (peek0_any _ H1.out).mono ?_; rintro e w1 ⟨rfl, b1⟩
    by_cases hcl : peek0 l' = [41]
    · have HW := hide (HM.out.trans (parW_stop hcl))
      have hne : ((bs (peek0 l')).toList == [41]) = true := HN1.out.trans (decide_eq_true hcl)
      have hne2 : ((bs (peek0 l')).toList != [41]) = false := by rw [bne, hne]; rfl
      clear hcl HN1
      go_wp2_with fail
      go_ret
      exact ⟨K1.out.trans (Kp.of_belowW b1 hs), .inl ⟨acc, l', _, HW.out, rfl, hO.out.kept (L2.below_grown b1) (by cases Value.ownBlock _ <;> simp), H1.out.step b1⟩⟩
    · have hne : ((bs (peek0 l')).toList == [41]) = false := HN1.out.trans (decide_eq_false hcl)
      have hne2 : ((bs (peek0 l')).toList != [41]) = true := by rw [bne, hne]; rfl
      have hcl := hide hcl
      clear HN1
      go_wp2_with fail
      refine (take_any _ (H1.out.step b1)).mono ?_; rintro e w2 ⟨rfl, k2, r2⟩
      have P2 := hide ((Pair.new w2 96 (a := .string (bs (peek0 l'))) (b := .int .i64 (atOf E l'))).below (below_box _ (.cells #[.int .i64 1, .int .i64 2] 3)))
      have X2 := hide (two_new' w2 (tokBox l' E))
      have B2 := hide (below_step (below_box w2 (tokBox l' E)) (below_box (w2.alloc (tokBox l' E)) (.cells #[.int .i64 1, .int .i64 2] 3)))
      have K2 := hide (((K1.out.trans (Kp.of_belowW b1 hs)).trans (k2.mono (Nat.le_trans hs b1.size))).trans (Kp.of_belowW B2.out (Nat.le_trans (Nat.le_trans hs b1.size) k2.size)))
      have R2 := hide (fun hl => (r2 hl).step B2.out)
      have O2 := hide ((own_kp (hO.out.kept (L2.below_grown b1) (by cases Value.ownBlock _ <;> simp)) k2 (fun g hg => by have := (hO.out.lt g hg); exact ⟨by have := b1.size; omega, by omega⟩)).kept (L2.below_grown B2.out) (by cases Value.ownBlock _ <;> simp))
      go_wp2_with fail
      show Calls _ _ _ ((w2.alloc (tokBox l' E)).alloc (.cells #[.int .i64 1, .int .i64 2] 3)) _
      generalize (w2.alloc (tokBox l' E)).alloc (.cells #[.int .i64 1, .int .i64 2] 3) = W2 at *
      clear B2 k2 r2 b1
      generalize w2.heap.size = g2 at *
      cases hk : twoKind (peek0 l') with
      | none =>
        have HW := hide (HM.out.trans (parW_bad hcl.out (param_type hk)))
        refine (typeOf_none X2.out hk).mono ?_; rintro e w3 ⟨rfl, b3⟩
        unfold thrown
        go_wp2_with fail
        exact bodyPost_thrown ⟨K2.out.trans (Kp.of_belowW b3 K2.out.size), .inr ⟨_, HW.out, rfl⟩⟩
      | some t =>
        have hl := two_ne hk
        refine (typeOf_some X2.out hk).mono ?_; rintro e w3 ⟨rfl, b3⟩
        obtain ⟨p0, p1, p2, p3, p4⟩ := P2.out.below b3
        by_cases h9 : acc.length < 8
        · have HW := hide (HM.out.trans (parW_go hcl.out (param_good hk h9)))
          have h9' : (acc.length : Int) < 8 := by omega
          go_wp2_with fail
          refine (need_ok _ _ _ _).mono ?_; rintro e w4 ⟨rfl, b4⟩
          have B4 := below_step b3 b4
          have O4 := hide (O2.out.kept (L2.below_grown B4) (by cases Value.ownBlock _ <;> simp))
          have K4 := hide (K2.out.trans (Kp.of_belowW B4 K2.out.size))
          have R4 := hide ((R2.out hl).step B4)
          have hs4 := K4.out.size
          clear O2 K2 R2 P2 X2 B4 b3 b4 p0 p1 p2 p3 p4
          go_wp2_with (at_builtin; refine wpList_append_own _ rfl (.tmp 20) (.tmp 22) 31 rfl w.heap.size 3 i0 _ 1 8 Tryz.underlying31 hi0 hz0 hz1 hz2 rfl (by decide) _ _ _ rfl (O4.out.alloc _) ⟨w4.heap.size, 0, none⟩ 1 1 [.int .i64 t] rfl rfl one_cell one_one (by unfold maxLen; omega) (by omega) (by simp; omega) ?_; intro v5 w5 own5 grow5 _)
          have K5 := hide ((K4.out.alloc hs4 (.cells #[.int .i64 t] 3)).grown grow5 (by simp; omega) (fun q hq => ⟨(O4.out.lt q hq).1, by have := (O4.out.lt q hq).1; omega⟩) (own_not80 (O4.out.alloc _) (by decide)))
          have R5 := (R4.out.step (below_box w4 (.cells #[.int .i64 t] 3))).grown grow5 (fun q hq => Nat.le_trans hBw (O4.out.lt q hq).1)
          have hra2 := R5.readAt
          have hll2 := R5.suffix.1.length_le
          have htb := tail_bulk hl
          have R5 := hide R5
          have own5 := hide own5
          clear grow5
          go_wp2_with fail
          go_roundw
          case rel => exact ⟨f, acc ++ [t], l'.tail, by have := own5.out; simpa using this, by simp; omega, R5.out, K5.out, by omega, HW⟩
          case measure => rw [hra, hra2]; omega
        · have HW := hide (HM.out.trans (parW_bad hcl.out (param_many hk (by omega))))
          have h9' : ¬ (acc.length : Int) < 8 := by omega
          have h9b : (8 : Int) <= acc.length := by omega
          have h9c : decide ((acc.length : Int) < 8) = false := by simpa using h9b
          go_wp2_with fail
          refine (need_no _ _ _ _).mono ?_; rintro e w4 ⟨rfl, b4⟩
          unfold thrown
          go_wp2_with fail
          exact bodyPost_thrown ⟨K2.out.trans (Kp.of_belowW (below_step b3 b4) K2.out.size), .inr ⟨_, HW.out, rfl⟩⟩
end Go.Proofs.YtahhbckccdigoaaGreatDoor
namespace Go.Proofs.YtahhbckccdigoaaGreatDoor
open Go Go.RowKit
open G (Tok Er Ins Fun peek0 peek1 atOf)
def InsRow (B : Nat) (w : World) : List Ins -> List Value -> Prop
  | [], cs => cs = []
  | x :: r, cs => ∃ va vt rest, cs = insCells x va vt ++ rest /\ w.ownsRow B 3 1 va x.2.2.2.2.1.length (ints x.2.2.2.2.1) /\ w.ownsRow B 3 1 vt x.2.2.2.2.2.1.length (ints x.2.2.2.2.2.1) /\ InsRow B w r rest
theorem InsRow.keep {B B' : Nat} {w w' : World} (hk : ∀ (v : Value) (n : Nat) (xs : List Value), w.ownsRow B 3 1 v n xs -> w'.ownsRow B' 3 1 v n xs) : ∀ (l : List Ins) (cs : List Value), InsRow B w l cs -> InsRow B' w' l cs := by
  intro l
  induction l with
  | nil => intro cs h; exact h
  | cons x r ih =>
    rintro cs ⟨va, vt, rest, h1, h2, h3, h4⟩
    exact ⟨va, vt, rest, h1, hk _ _ _ h2, hk _ _ _ h3, ih rest h4⟩
theorem InsRow.snoc {B : Nat} {w : World} {x : Ins} {va vt : Value} (h1 : w.ownsRow B 3 1 va x.2.2.2.2.1.length (ints x.2.2.2.2.1)) (h2 : w.ownsRow B 3 1 vt x.2.2.2.2.2.1.length (ints x.2.2.2.2.2.1)) : ∀ (l : List Ins) (cs : List Value), InsRow B w l cs -> InsRow B w (l ++ [x]) (cs ++ insCells x va vt) := by
  intro l
  induction l with
  | nil => intro cs h; cases h; exact ⟨va, vt, [], by simp, h1, h2, rfl⟩
  | cons y r ih =>
    rintro cs ⟨ua, ut, rest, rfl, h4, h5, h6⟩
    exact ⟨ua, ut, rest ++ insCells x va vt, by simp, h4, h5, ih rest h6⟩
def BlkVal (B : Nat) (xs : List Ins) (v : Value) (w : World) : Prop := ∃ cs, w.ownsRow B 39 8 v xs.length cs /\ InsRow B w xs cs
theorem own_below {w w' : World} (b : Below w.heap.size w w') (B e s : Nat) : ∀ (v : Value) (n : Nat) (xs : List Value), w.ownsRow B e s v n xs -> w'.ownsRow B e s v n xs :=
  fun v _ _ h => h.kept (L2.below_grown b) (by cases v.ownBlock <;> simp)
theorem own_kept {a : Nat} {w w' : World} (k : Kp w.heap.size a w w') {B : Nat} (ha : a < B) (e s : Nat) : ∀ (v : Value) (n : Nat) (xs : List Value), w.ownsRow B e s v n xs -> w'.ownsRow B e s v n xs :=
  fun _ _ _ h => own_kp h k (fun g hg => by have := h.lt g hg; omega)
theorem own_other {w w' : World} {row : Value} {B B' e s e' s' n : Nat} {xs : List Value} (hg : w.grownBy w' row.ownBlock) (hr : w.ownsRow B' e' s' row n xs) (he : e ≠ e') : ∀ (v : Value) (m : Nat) (ys : List Value), w.ownsRow B e s v m ys -> w'.ownsRow B e s v m ys :=
  fun _ _ _ h => h.kept hg (own_apart h hr he)
theorem BlkVal.below {B : Nat} {xs : List Ins} {v : Value} {w w' : World} (h : BlkVal B xs v w) (b : Below w.heap.size w w') : BlkVal B xs v w' := by
  obtain ⟨cs, h1, h2⟩ := h
  exact ⟨cs, own_below b _ _ _ _ _ _ h1, InsRow.keep (own_below b B 3 1) _ _ h2⟩
theorem BlkVal.kp {B a : Nat} {xs : List Ins} {v : Value} {w w' : World} (h : BlkVal B xs v w) (k : Kp w.heap.size a w w') (ha : a < B) : BlkVal B xs v w' := by
  obtain ⟨cs, h1, h2⟩ := h
  exact ⟨cs, own_kept k ha _ _ _ _ _ h1, InsRow.keep (own_kept k ha 3 1) _ _ h2⟩
theorem BlkVal.grown {B : Nat} {xs : List Ins} {v : Value} {w w' : World} {row : Value} {B' e' s' n : Nat} {ys : List Value} (h : BlkVal B xs v w) (hg : w.grownBy w' row.ownBlock) (hr : w.ownsRow B' e' s' row n ys) (h3 : 3 ≠ e') (h38 : 39 ≠ e') : BlkVal B xs v w' := by
  obtain ⟨cs, h1, h2⟩ := h
  exact ⟨cs, own_other hg hr h38 _ _ _ h1, InsRow.keep (own_other hg hr h3) _ _ h2⟩
theorem BlkVal.base {B B' : Nat} {xs : List Ins} {v : Value} {w : World} (h : BlkVal B xs v w) (hB : B' <= B) : BlkVal B' xs v w := by
  obtain ⟨cs, h1, h2⟩ := h
  exact ⟨cs, own_base h1 hB, InsRow.keep (fun _ _ _ h => own_base h hB) _ _ h2⟩
theorem Tryz.info39 : (Tryz.prog.info? 39).map (fun i => (i.zero, i.size, i.bytes)) = some (some (.agg #[.int .i64 0, .int .i64 0, .int .i64 0, .int .i64 0, .slice none 0 0, .slice none 0 0, .string ⟨#[]⟩, .int .i64 0]), 8, 104) := by kernel_rfl
theorem eight_cell {w : World} {x : Ins} {va vt : Value} : ∀ (j : Nat) (u : Value), (insCells x va vt)[j]? = some u -> (w.alloc (.cells (insCells x va vt).toArray 39)).cell? ((⟨w.heap.size, 0, none⟩ : Addr).add j) = some u :=
  World.news_of_block (cs := (insCells x va vt).toArray) (heap_alloc_new w _)
theorem eight_one {x : Ins} {ao ap : Option Addr} {m n c d : Nat} : ∀ u ∈ insCells x (.slice ao m c) (.slice ap n d), u.oneCell' = true := by
  intro u hu
  simp only [insCells, List.mem_cons, List.not_mem_nil, or_false] at hu
  rcases hu with rfl | rfl | rfl | rfl | rfl | rfl | rfl | rfl <;> rfl
theorem Rdr.count {B a : Nat} {L : List Tok} {E : Int} {n : Nat} {l : List Tok} {w : World} (h : Rdr B a L E n l w) (hn : n < 4096) : Rdr B a L E (n + 1) l (w.setCell ⟨a, 3, none⟩ (.int .i64 ((n : Int) + 1))) := by
  obtain ⟨v, h1, h2, h3, h4, h5, h6, h7, h8⟩ := h
  have hsz : (w.setCell ⟨a, 3, none⟩ (.int .i64 ((n : Int) + 1))).heap.size = w.heap.size := by simp [World.setCell]
  refine ⟨v, ?_, ?_, h3, h4, h5, h6, by omega, by rw [hsz]; exact h8⟩
  · rw [heap_setCell_same w a 3 _ 75 _ h1]
    rw [show (n : Int) + 1 = ((n + 1 : Nat) : Int) from by omega]; rfl
  · exact own_setCell h2 (own_ne h2 h1 (by decide)) _
abbrev blockG (E : Int) (k n : Nat) : G.Rd (List Ins × Nat) := G.block numF idxF namF shpF tksF fndF mksF prtF E k n
abbrev insG (E : Int) (f n : Nat) (acc : List Ins) : G.Rd (List Ins × Nat) := G.insW numF idxF namF shpF tksF fndF mksF E f n acc
theorem head_none {E : Int} {k : Nat} {l : List Tok} (hk : k < 256) (h : G.mark idxF 98 255 (peek0 l) = none) : G.head prtF E k l = .error (7, atOf E l) := by
  refine (one_none (if_pos (.inr (.inr (by unfold prtF; rw [h]; simp))))).trans ?_
  show Except.error ((if 256 <= k then (6 : Int) else 7), atOf E l) = _
  rw [if_neg (by omega)]
theorem head_other {E j : Int} {k : Nat} {l : List Tok} (hk : k < 256) (h : G.mark idxF 98 255 (peek0 l) = some j) (hj : ¬ j = (k : Int)) : G.head prtF E k l = .error (7, atOf E l) := by
  refine (one_none (if_pos (.inr (.inr (by unfold prtF; rw [h]; simp [hj]))))).trans ?_
  show Except.error ((if 256 <= k then (6 : Int) else 7), atOf E l) = _
  rw [if_neg (by omega)]
theorem head_good {E : Int} {k : Nat} {l : List Tok} (hk : k < 256) (h : G.mark idxF 98 255 (peek0 l) = some (k : Int)) : G.head prtF E k l = .ok ((), l.tail) := by
  refine one_some (if_neg (fun c => ?_))
  rcases c with c | c | c
  · omega
  · rw [c] at h; cases h
  · unfold prtF at c; rw [h] at c; simp at c
theorem block_head {E : Int} {k n : Nat} {l : List Tok} {er : Er} (h : G.head prtF E k l = .error er) : blockG E k n l = .error er := by
  unfold blockG G.block; rw [h]; rfl
theorem block_word {E : Int} {k n : Nat} {l l' : List Tok} {er : Er} (h : G.head prtF E k l = .ok ((), l')) (hw : G.want E [58] l' = .error er) : blockG E k n l = .error er := by
  unfold blockG G.block; rw [h]; show G.andThen (G.want E [58] l') _ = _; rw [hw]; rfl
theorem block_body {E : Int} {k n : Nat} {l l' l2 : List Tok} (h : G.head prtF E k l = .ok ((), l')) (hw : G.want E [58] l' = .ok ((), l2)) : blockG E k n l = insG E (l2.length + 1) n [] l2 := by
  unfold blockG G.block; rw [h]; show G.andThen (G.want E [58] l') _ = _; rw [hw]; rfl
theorem ins_stop {E : Int} {f n : Nat} {acc : List Ins} {l : List Tok} (h : peek0 l = [125] \/ peek1 l = [58]) : insG E (f + 1) n acc l = .ok ((acc, n), l) := by
  unfold insG G.insW; rw [if_pos h]
theorem ins_many {E : Int} {f n : Nat} {acc : List Ins} {l : List Tok} (h : ¬ (peek0 l = [125] \/ peek1 l = [58])) (hn : 4096 <= n) : insG E (f + 1) n acc l = .error (6, atOf E l) := by
  unfold insG G.insW; rw [if_neg h, if_pos hn]
theorem ins_bad {E : Int} {f n : Nat} {acc : List Ins} {l : List Tok} {er : Er} (h : ¬ (peek0 l = [125] \/ peek1 l = [58])) (hn : n < 4096) (hi : instrP E l = .error er) : insG E (f + 1) n acc l = .error er := by
  unfold insG G.insW; rw [if_neg h, if_neg (by omega), instr_eq, hi]; rfl
theorem ins_go {E : Int} {f n : Nat} {acc : List Ins} {l l' : List Tok} {x : Ins} (h : ¬ (peek0 l = [125] \/ peek1 l = [58])) (hn : n < 4096) (hi : instrP E l = .ok (x, l')) : insG E (f + 1) n acc l = insG E f (n + 1) (acc ++ [x]) l' := by
  conv => lhs; unfold insG G.insW
  rw [if_neg h, if_neg (by omega), instr_eq, hi]; rfl
theorem instr_less {E : Int} {l l' : List Tok} {x : Ins} (h : instrP E l = .ok (x, l')) : l'.length < l.length := by
  rw [<- instr_eq] at h
  obtain ⟨h1, h2⟩ := G.instr_eats nam_nil num_nil shp_nil fnd_nil l x l' h
  have := h2.length_le
  have := tail_bulk h1
  omega
end Go.Proofs.YtahhbckccdigoaaGreatDoor
