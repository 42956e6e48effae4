/- Layer 6: the grammar over a list of words as plain functions, whatever the words' own functions (numbers, names, shapes, operations) are. -/
import Derived.WalkKit
namespace Go.Proofs.YtkkkgennkhdfhaaDoor.G

abbrev Tok := List UInt8 × Int
abbrev Er := Int × Int
/-- Op, Id, N, Type, Args, To, Name, At. -/
abbrev Ins := Int × Int × Int × Int × List Int × List Int × List UInt8 × Int
/-- Name, Params, Ret, Blocks, At. -/
abbrev Fun := List UInt8 × List Int × Int × List (List Ins) × Int
/-- What reading a part of the words answers: what is wrong, or the part and the words behind it. -/
abbrev Rd (α : Type) := List Tok → Except Er (α × List Tok)

def andThen {α β : Type} (x : Except Er (α × List Tok)) (f : α → Rd β) : Except Er (β × List Tok) :=
  match x with
  | .ok (v, r) => f v r
  | .error e => .error e

def peek0 : List Tok → List UInt8
  | [] => []
  | t :: _ => t.1
def peek1 : List Tok → List UInt8
  | _ :: t :: _ => t.1
  | _ => []
def atOf (E : Int) : List Tok → Int
  | [] => E
  | t :: _ => t.2

/-- A reader that looks at one word and takes it away: what it makes of the word; else the code. -/
def one {α : Type} (f : List UInt8 → Option α) (c : List UInt8 → Int) (E : Int) : Rd α := fun l =>
  match f (peek0 l) with
  | some v => .ok (v, l.tail)
  | none => .error (c (peek0 l), atOf E l)
def want (E : Int) (w : List UInt8) : Rd Unit := one (fun s => if s = w then some () else none) (fun _ => 2) E
def name (nam : List UInt8 → Bool) (E : Int) : Rd (List UInt8) := one (fun s => if nam s then some s else none) (fun _ => 4) E
/-- A sign and a number behind it. -/
def mark (idx : List UInt8 → Int → Option Int) (sign : UInt8) (most : Int) (s : List UInt8) : Option Int :=
  match s with
  | x :: y :: r => if x = sign then idx (y :: r) most else none
  | _ => none
def index (idx : List UInt8 → Int → Option Int) (sign : UInt8) (most c E : Int) : Rd Int := one (mark idx sign most) (fun _ => c) E
def value (idx : List UInt8 → Int → Option Int) (E : Int) : Rd Int := index idx 37 1048576 8 E
def label (idx : List UInt8 → Int → Option Int) (E : Int) : Rd Int := index idx 98 255 7 E
def number (num : List UInt8 → Int × Int) (E lo hi : Int) : Rd Int :=
  one (fun s => if (num s).2 ≠ 0 ∨ (num s).1 < lo ∨ hi < (num s).1 then none else some (num s).1) (fun s => if (num s).2 ≠ 0 then (num s).2 else 18) E
def anyNum (num : List UInt8 → Int × Int) (E : Int) : Rd Int := one (fun s => if (num s).2 ≠ 0 then none else some (num s).1) (fun s => (num s).2) E
def shaped (shp : List UInt8 → Int) (E : Int) : Rd (List UInt8) := one (fun s => if shp s ≠ 0 then none else some s) shp E
def taken (l : List Tok) : Bool := (peek0 l).head? == some 37 && peek1 l != [61]
def paired (l : List Tok) : Bool := (peek0 l).head? == some 98 && peek0 l != [98, 114] && peek1 l != [58]

/-- Values, as long as one that is taken stands next. -/
def valuesW (idx : List UInt8 → Int → Option Int) (E : Int) : Nat → List Int → Rd (List Int)
  | 0, acc => fun l => .ok (acc, l)
  | f + 1, acc => fun l => if taken l then andThen (value idx E l) fun v => valuesW idx E f (acc ++ [v]) else .ok (acc, l)
def values (idx : List UInt8 → Int → Option Int) (E : Int) : Rd (List Int) := fun l => valuesW idx E (l.length + 1) [] l
/-- So many values. -/
def valuesN (idx : List UInt8 → Int → Option Int) (E : Int) : Nat → List Int → Rd (List Int)
  | 0, acc => fun l => .ok (acc, l)
  | f + 1, acc => fun l => andThen (value idx E l) fun v => valuesN idx E f (acc ++ [v])
/-- Pairs of a label and a value: one at least. -/
def phiW (idx : List UInt8 → Int → Option Int) (E : Int) : Nat → List Int → List Int → Rd (List Int × List Int)
  | 0, to, args => fun l => .ok ((to, args), l)
  | f + 1, to, args => fun l =>
    if to = [] ∨ paired l = true then andThen (label idx E l) fun b r => andThen (value idx E r) fun v => phiW idx E f (to ++ [b]) (args ++ [v])
    else .ok ((to, args), l)
def phi (idx : List UInt8 → Int → Option Int) (E : Int) : Rd (List Int × List Int) := fun l => phiW idx E (l.length + 1) [] [] l
/-- What stands behind an operation's word: N, Args, To, Name. -/
abbrev Opd := Int × List Int × List Int × List UInt8
def done {α : Type} (v : α) : Rd α := fun l => .ok (v, l)
def ret1 (idx : List UInt8 → Int → Option Int) (E : Int) : Rd Opd := fun l =>
  if taken l then andThen (value idx E l) fun v => done (0, [v], [], []) else .ok ((0, [], [], []), l)
/-- The number behind a call's sign, where it stands; else 0. -/
def spot (idx : List UInt8 → Int → Option Int) (E : Int) : Rd Int := fun l =>
  if (peek0 l).head? = some 64 then index idx 64 1048576 3 E l else .ok (0, l)
/-- An instruction's value, where one stands; else -1. -/
def ident (idx : List UInt8 → Int → Option Int) (E : Int) : Rd Int := fun l =>
  if peek1 l = [61] then andThen (value idx E l) fun v r => andThen (want E [61] r) fun _ => done v else .ok (-1, l)

section
variable (num : List UInt8 → Int × Int) (idx : List UInt8 → Int → Option Int) (nam : List UInt8 → Bool) (shp : List UInt8 → Int) (tks : Int → Nat)
def operands (E op : Int) : Rd Opd := fun l =>
  if op = 1 then andThen (anyNum num E l) fun x => done (x, [], [], [])
  else if op = 29 then andThen (number num E 0 255 l) fun x => done (x, [], [], [])
  else if op = 10 then andThen (shaped shp E l) fun s => done (0, [], [], s)
  else if op = 20 then andThen (phi idx E l) fun x => done (0, x.2, x.1, [])
  else if op = 21 then andThen (spot idx E l) fun n r => andThen (name nam E r) fun s r => andThen (values idx E r) fun a => done (n, a, [], s)
  else if op = 28 then ret1 idx E l
  else if op = 11 ∨ op = 12 ∨ op = 15 then andThen (value idx E l) fun v r => andThen (number num E 0 15 r) fun x => done (x, [v], [], [])
  else if op = 13 ∨ op = 14 then andThen (value idx E l) fun v r => andThen (number num E 0 15 r) fun x r => andThen (value idx E r) fun u => done (x, [v, u], [], [])
  else if op = 23 then andThen (number num E 0 1048576 l) fun x => done (x, [], [], [])
  else if op = 24 then andThen (value idx E l) fun v r => andThen (number num E 0 1048576 r) fun x => done (x, [v], [], [])
  else if op = 26 then andThen (label idx E l) fun b => done (0, [], [b], [])
  else if op = 27 then andThen (value idx E l) fun v r => andThen (label idx E r) fun b r => andThen (label idx E r) fun c => done (0, [v], [b, c], [])
  else andThen (valuesN idx E (tks op) [] l) fun a => done (0, a, [], [])
variable (fnd : List UInt8 → Int × Int) (mks : Int → Int → Int) (prt : Nat → List UInt8 → Bool)
/-- The operation's word behind a value: the operation and the type. -/
def opword (E id : Int) : Rd (Int × Int) :=
  one (fun s => if (fnd s).1 = 0 ∨ decide (mks (fnd s).1 (fnd s).2 ≠ 0) ≠ decide (0 ≤ id) then none else some (fnd s)) (fun s => if (fnd s).1 = 0 then 2 else 8) E
def start (E : Int) : Rd (Int × Int × Int) := fun l => andThen (ident idx E l) fun i r => andThen (opword fnd mks E i r) fun o => done (i, o.1, o.2)
def instrA (E a : Int) : Rd Ins := fun l =>
  andThen (start idx fnd mks E l) fun x r => andThen (operands num idx nam shp tks E x.2.1 r) fun y => done (x.2.1, x.1, y.1, x.2.2, y.2.1, y.2.2.1, y.2.2.2, a)
def instr (E : Int) : Rd Ins := fun l => instrA num idx nam shp tks fnd mks E (atOf E l) l
/-- A block's instructions; how many there were ahead of each. -/
def insW (E : Int) : Nat → Nat → List Ins → Rd (List Ins × Nat)
  | 0, n, acc => fun l => .ok ((acc, n), l)
  | f + 1, n, acc => fun l =>
    if peek0 l = [125] ∨ peek1 l = [58] then .ok ((acc, n), l)
    else if 4096 ≤ n then .error (6, atOf E l)
    else andThen (instr num idx nam shp tks fnd mks E l) fun x => insW E f (n + 1) (acc ++ [x])
def body (E : Int) (n : Nat) : Rd (List Ins × Nat) := fun l => insW num idx nam shp tks fnd mks E (l.length + 1) n [] l
/-- A block's own label. -/
def head (E : Int) (k : Nat) : Rd Unit := one (fun s => if 256 ≤ k ∨ s = [] ∨ prt k s = false then none else some ()) (fun _ => if 256 ≤ k then 6 else 7) E
def block (E : Int) (k n : Nat) : Rd (List Ins × Nat) := fun l =>
  andThen (head prt E k l) fun _ r => andThen (want E [58] r) fun _ => body num idx nam shp tks fnd mks E n
def blkW (E : Int) : Nat → Nat → List (List Ins) → Rd (List (List Ins) × Nat)
  | 0, n, acc => fun l => .ok ((acc, n), l)
  | f + 1, n, acc => fun l =>
    if peek0 l = [125] then .ok ((acc, n), l)
    else andThen (block num idx nam shp tks fnd mks prt E acc.length n l) fun x => blkW E f x.2 (acc ++ [x.1])
def blocks (E : Int) (n : Nat) : Rd (List (List Ins) × Nat) := fun l => blkW num idx nam shp tks fnd mks prt E (l.length + 1) n [] l
def kind (s : List UInt8) : Int := if s = [110] then 0 else if s = [105] then 1 else if s = [112] then 2 else -1
def param (E : Int) (k : Nat) : Rd Int := one (fun s => if kind s < 1 ∨ 8 ≤ k then none else some (kind s)) (fun s => if kind s < 1 then 9 else 6) E
def parW (E : Int) : Nat → List Int → Rd (List Int)
  | 0, acc => fun l => .ok (acc, l)
  | f + 1, acc => fun l => if peek0 l = [41] then .ok (acc, l) else andThen (param E acc.length l) fun t => parW E f (acc ++ [t])
def params (E : Int) : Rd (List Int) := fun l => parW E (l.length + 1) [] l
def answer (E : Int) : Rd Int := one (fun s => if kind s < 0 then none else some (kind s)) (fun _ => 9) E
def function (E : Int) (n : Nat) : Rd (Fun × Nat) := fun l =>
  andThen (want E [102, 117, 110, 99] l) fun _ r => andThen (name nam E r) fun s r => andThen (want E [40] r) fun _ r => andThen (params E r) fun p r => andThen (want E [41] r) fun _ r =>
  andThen (answer E r) fun t r => andThen (want E [123] r) fun _ r => andThen (blocks num idx nam shp tks fnd mks prt E n r) fun b r => andThen (want E [125] r) fun _ => done ((s, p, t, b.1, atOf E l), b.2)
def funW (E : Int) : Nat → Nat → List Fun → Rd (List Fun × Nat)
  | 0, n, acc => fun l => .ok ((acc, n), l)
  | f + 1, n, acc => fun l =>
    if l = [] then .ok ((acc, n), l)
    else if 32 ≤ acc.length then .error (6, atOf E l)
    else andThen (function num idx nam shp tks fnd mks prt E n l) fun x => funW E f x.2 (acc ++ [x.1])
/-- The program that words are, or what is wrong first, and where. -/
def program (E : Int) : Rd (List Fun × Nat) := fun l => funW num idx nam shp tks fnd mks prt E (l.length + 1) 0 [] l
end

/-! ### What is read is read alike where other words stand behind, and where the words stand elsewhere -/
def sh (d : Int) (l : List Tok) : List Tok := l.map fun t => (t.1, t.2 + d)
def shI (d : Int) (x : Ins) : Ins := (x.1, x.2.1, x.2.2.1, x.2.2.2.1, x.2.2.2.2.1, x.2.2.2.2.2.1, x.2.2.2.2.2.2.1, x.2.2.2.2.2.2.2 + d)
def shF (d : Int) (x : Fun) : Fun := (x.1, x.2.1, x.2.2.1, x.2.2.2.1.map (fun b => b.map (shI d)), x.2.2.2.2 + d)
theorem peek0_sh {d : Int} {l m : List Tok} (h : l ≠ []) : peek0 (sh d l ++ m) = peek0 l := by
  cases l with
  | nil => exact absurd rfl h
  | cons t r => rfl
theorem peek1_sh {d : Int} {l m : List Tok} (h : l.tail ≠ []) : peek1 (sh d l ++ m) = peek1 l := by
  match l, h with
  | a :: b :: r, _ => rfl
  | [_], h => exact absurd rfl h
  | [], h => exact absurd rfl h
theorem at_sh {E E' d : Int} {l m : List Tok} (h : l ≠ []) : atOf E' (sh d l ++ m) = atOf E l + d := by
  cases l with
  | nil => exact absurd rfl h
  | cons t r => rfl
theorem tail_sh {d : Int} {l m : List Tok} (h : l ≠ []) : (sh d l ++ m).tail = sh d l.tail ++ m := by
  cases l with
  | nil => exact absurd rfl h
  | cons t r => rfl
theorem ne_of_tail {l : List Tok} (h : l.tail ≠ []) : l ≠ [] := fun e => by subst e; exact h rfl
theorem ne_of_suffix {r l : List Tok} (h : r <:+ l) (hr : r ≠ []) : l ≠ [] := fun e => by
  subst e; exact hr (List.eq_nil_of_suffix_nil h)

/-- What F reads, F' reads alike in the longer list, where something is left. -/
def Sim {α β : Type} (d : Int) (m : List Tok) (g : α → β) (F : Rd α) (F' : Rd β) : Prop :=
  ∀ l v r, F l = .ok (v, r) → r <:+ l ∧ (r ≠ [] → F' (sh d l ++ m) = .ok (g v, sh d r ++ m))
/-- The same, and at least one word is taken away, and nothing is looked at ahead. -/
def Eats {α : Type} (F : Rd α) : Prop := ∀ l v r, F l = .ok (v, r) → l ≠ [] ∧ r <:+ l.tail

theorem Sim.done {α β : Type} {d : Int} {m : List Tok} {g : α → β} {v : α} {v' : β} (h : g v = v') : Sim d m g (done v) (done v') := by
  intro l u r h1
  cases h1
  exact ⟨List.suffix_refl _, fun _ => by rw [h]; rfl⟩
theorem Sim.then {α β γ δ : Type} {d : Int} {m : List Tok} {g : α → β} {k : γ → δ} {F : Rd α} {F' : Rd β} {G : α → Rd γ} {G' : β → Rd δ} (hF : Sim d m g F F') (hG : ∀ v, Sim d m k (G v) (G' (g v))) :
    Sim d m k (fun l => andThen (F l) G) (fun l => andThen (F' l) G') := by
  intro l v r h
  replace h : andThen (F l) G = .ok (v, r) := h
  cases e : F l with
  | error x => rw [e] at h; cases h
  | ok p =>
    obtain ⟨u, q⟩ := p
    rw [e] at h
    obtain ⟨s1, c1⟩ := hF l u q e
    obtain ⟨s2, c2⟩ := hG u q v r h
    refine ⟨s2.trans s1, fun hr => ?_⟩
    show andThen (F' (sh d l ++ m)) G' = _
    rw [c1 (ne_of_suffix s2 hr)]
    exact c2 hr
theorem one_ok {α : Type} {f : List UInt8 → Option α} {c : List UInt8 → Int} {E : Int} (h0 : f [] = none) {l r : List Tok} {v : α} (h : one f c E l = .ok (v, r)) : l ≠ [] ∧ r = l.tail ∧ f (peek0 l) = some v := by
  unfold one at h
  cases e : f (peek0 l) with
  | none => rw [e] at h; cases h
  | some u =>
    rw [e] at h
    cases h
    refine ⟨fun e2 => ?_, rfl, rfl⟩
    subst e2
    exact absurd (h0.symm.trans e) (by simp)
theorem Sim.one {α : Type} {d : Int} {m : List Tok} {f : List UInt8 → Option α} {c c' : List UInt8 → Int} {E E' : Int} (h0 : f [] = none) : Sim d m id (one f c E) (one f c' E') := by
  intro l v r h
  obtain ⟨hl, rfl, hv⟩ := one_ok h0 h
  refine ⟨List.tail_suffix l, fun _ => ?_⟩
  unfold G.one
  rw [peek0_sh hl, hv, tail_sh hl]; rfl
theorem Eats.one {α : Type} {f : List UInt8 → Option α} {c : List UInt8 → Int} {E : Int} (h0 : f [] = none) : Eats (one f c E) := by
  intro l v r h
  obtain ⟨hl, rfl, _⟩ := one_ok h0 h
  exact ⟨hl, List.suffix_refl _⟩
theorem Eats.then {α β : Type} {F : Rd α} {G : α → Rd β} (hF : Eats F) (hG : ∀ v l u r, G v l = .ok (u, r) → r <:+ l) : Eats (fun l => andThen (F l) G) := by
  intro l v r h
  replace h : andThen (F l) G = .ok (v, r) := h
  cases e : F l with
  | error x => rw [e] at h; cases h
  | ok p =>
    obtain ⟨u, q⟩ := p
    rw [e] at h
    obtain ⟨h1, h2⟩ := hF l u q e
    exact ⟨h1, (hG u q v r h).trans h2⟩

section
variable {d : Int} {m : List Tok} {E E' : Int} {num : List UInt8 → Int × Int} {idx : List UInt8 → Int → Option Int} {nam : List UInt8 → Bool} {shp : List UInt8 → Int} {tks : Int → Nat} {fnd : List UInt8 → Int × Int} {mks : Int → Int → Int} {prt : Nat → List UInt8 → Bool}
theorem want_none {w : List UInt8} (hw : w ≠ []) : (fun s => if s = w then some () else none) ([] : List UInt8) = none := by
  show (if [] = w then some () else none) = none
  rw [if_neg (fun e => hw e.symm)]
theorem want_sim {w : List UInt8} (hw : w ≠ []) : Sim d m id (want E w) (want E' w) := Sim.one (want_none hw)
theorem index_sim {sign : UInt8} {most c : Int} : Sim d m id (index idx sign most c E) (index idx sign most c E') := Sim.one (f := mark idx sign most) rfl
theorem index_eats {sign : UInt8} {most c : Int} : Eats (index idx sign most c E) := Eats.one (f := mark idx sign most) rfl
theorem index_ok {sign : UInt8} {most c n : Int} {l r : List Tok} (h : index idx sign most c E l = .ok (n, r)) : l ≠ [] ∧ r = l.tail ∧ mark idx sign most (peek0 l) = some n := one_ok (f := mark idx sign most) rfl h
theorem value_ok {n : Int} {l r : List Tok} (h : value idx E l = .ok (n, r)) : l ≠ [] ∧ r = l.tail ∧ mark idx 37 1048576 (peek0 l) = some n := index_ok h
theorem label_ok {n : Int} {l r : List Tok} (h : label idx E l = .ok (n, r)) : l ≠ [] ∧ r = l.tail ∧ mark idx 98 255 (peek0 l) = some n := index_ok h
theorem value_sim : Sim d m id (value idx E) (value idx E') := index_sim
theorem label_sim : Sim d m id (label idx E) (label idx E') := index_sim
theorem value_eats : Eats (value idx E) := index_eats
theorem label_eats : Eats (label idx E) := index_eats
theorem name_sim (hn : nam [] = false) : Sim d m id (name nam E) (name nam E') := Sim.one (by simp [hn])
theorem number_sim {lo hi : Int} (hn : (num []).2 ≠ 0) : Sim d m id (number num E lo hi) (number num E' lo hi) := Sim.one (by simp [hn])
theorem anyNum_sim (hn : (num []).2 ≠ 0) : Sim d m id (anyNum num E) (anyNum num E') := Sim.one (by simp [hn])
theorem shaped_sim (hn : shp [] ≠ 0) : Sim d m id (shaped shp E) (shaped shp E') := Sim.one (by simp [hn])
theorem opword_sim {i : Int} (hn : (fnd []).1 = 0) : Sim d m id (opword fnd mks E i) (opword fnd mks E' i) := Sim.one (by simp [hn])
theorem opword_eats {i : Int} (hn : (fnd []).1 = 0) : Eats (opword fnd mks E i) := Eats.one (by simp [hn])
theorem head_sim {k : Nat} : Sim d m id (head prt E k) (head prt E' k) := Sim.one (by simp)
theorem head_eats {k : Nat} : Eats (head prt E k) := Eats.one (by simp)
theorem param_sim {k : Nat} : Sim d m id (param E k) (param E' k) := Sim.one (by simp [kind])
theorem param_eats {k : Nat} : Eats (param E k) := Eats.one (by simp [kind])
theorem answer_sim : Sim d m id (answer E) (answer E') := Sim.one (by simp [kind])
theorem want_eats {w : List UInt8} (hw : w ≠ []) : Eats (want E w) := Eats.one (want_none hw)
end
end Go.Proofs.YtkkkgennkhdfhaaDoor.G
