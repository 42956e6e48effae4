/- Layer 6: the grammar over a list of words as plain functions, whatever the words' own functions (numbers, names, shapes, operations) are. -/
import Derived.WalkKit
import Derived.Laws.AppendOwn
import Derived.OwnWalk
import Derived.Lib.OthersKept
import Derived.Below
import Derived.Test.YtahhbckccdigoaaGreatDoorProg
import Derived.WalkSpells
import Derived.WalkSmall
import Derived.WalkLawsBesides
import Derived.KernelRfl
import Derived.Deep.QuietTactic
import Derived.BigQuiet
import Derived.RegionTactic
import Derived.BigRegion
import Derived.Deep.Cut
set_option maxHeartbeats 8000000
set_option maxRecDepth 20000
namespace Go.Proofs.YtahhbckccdigoaaGreatDoor.G
abbrev Tok := List UInt8 × Int
abbrev Er := Int × Int
abbrev Ins := Int × Int × Int × Int × List Int × List Int × List UInt8 × Int
abbrev Fun := List UInt8 × List Int × Int × List (List Ins) × Int
abbrev Rd (α : Type) := List Tok -> Except Er (α × List Tok)
def andThen {α β : Type} (x : Except Er (α × List Tok)) (f : α -> Rd β) : Except Er (β × List Tok) :=
  match x with
  | .ok (v, r) => f v r
  | .error e => .error e
def peek0 : List Tok -> List UInt8
  | [] => []
  | t :: _ => t.1
def peek1 : List Tok -> List UInt8
  | _ :: t :: _ => t.1
  | _ => []
def atOf (E : Int) : List Tok -> Int
  | [] => E
  | t :: _ => t.2
def one {α : Type} (f : List UInt8 -> Option α) (c : List UInt8 -> Int) (E : Int) : Rd α := fun l =>
  match f (peek0 l) with
  | some v => .ok (v, l.tail)
  | none => .error (c (peek0 l), atOf E l)
def want (E : Int) (w : List UInt8) : Rd Unit := one (fun s => if s = w then some () else none) (fun _ => 2) E
def name (nam : List UInt8 -> Bool) (E : Int) : Rd (List UInt8) := one (fun s => if nam s then some s else none) (fun _ => 4) E
def mark (idx : List UInt8 -> Int -> Option Int) (sign : UInt8) (most : Int) (s : List UInt8) : Option Int :=
  match s with
  | x :: y :: r => if x = sign then idx (y :: r) most else none
  | _ => none
def index (idx : List UInt8 -> Int -> Option Int) (sign : UInt8) (most c E : Int) : Rd Int := one (mark idx sign most) (fun _ => c) E
def value (idx : List UInt8 -> Int -> Option Int) (E : Int) : Rd Int := index idx 37 1048576 8 E
def label (idx : List UInt8 -> Int -> Option Int) (E : Int) : Rd Int := index idx 98 255 7 E
def number (num : List UInt8 -> Int × Int) (E lo hi : Int) : Rd Int :=
  one (fun s => if (num s).2 ≠ 0 \/ (num s).1 < lo \/ hi < (num s).1 then none else some (num s).1) (fun s => if (num s).2 ≠ 0 then (num s).2 else 18) E
def anyNum (num : List UInt8 -> Int × Int) (E : Int) : Rd Int := one (fun s => if (num s).2 ≠ 0 then none else some (num s).1) (fun s => (num s).2) E
def shaped (shp : List UInt8 -> Int) (E : Int) : Rd (List UInt8) := one (fun s => if shp s ≠ 0 then none else some s) shp E
def taken (l : List Tok) : Bool := (peek0 l).head? == some 37 && peek1 l != [61]
def paired (l : List Tok) : Bool := (peek0 l).head? == some 98 && peek0 l != [98, 114] && peek1 l != [58]
def valuesW (idx : List UInt8 -> Int -> Option Int) (E : Int) : Nat -> List Int -> Rd (List Int)
  | 0, acc => fun l => .ok (acc, l)
  | f + 1, acc => fun l => if taken l then andThen (value idx E l) fun v => valuesW idx E f (acc ++ [v]) else .ok (acc, l)
def values (idx : List UInt8 -> Int -> Option Int) (E : Int) : Rd (List Int) := fun l => valuesW idx E (l.length + 1) [] l
def valuesN (idx : List UInt8 -> Int -> Option Int) (E : Int) : Nat -> List Int -> Rd (List Int)
  | 0, acc => fun l => .ok (acc, l)
  | f + 1, acc => fun l => andThen (value idx E l) fun v => valuesN idx E f (acc ++ [v])
def phiW (idx : List UInt8 -> Int -> Option Int) (E : Int) : Nat -> List Int -> List Int -> Rd (List Int × List Int)
  | 0, to, args => fun l => .ok ((to, args), l)
  | f + 1, to, args => fun l =>
    if to = [] \/ paired l = true then andThen (label idx E l) fun b r => andThen (value idx E r) fun v => phiW idx E f (to ++ [b]) (args ++ [v])
    else .ok ((to, args), l)
def phi (idx : List UInt8 -> Int -> Option Int) (E : Int) : Rd (List Int × List Int) := fun l => phiW idx E (l.length + 1) [] [] l
abbrev Opd := Int × List Int × List Int × List UInt8
def done {α : Type} (v : α) : Rd α := fun l => .ok (v, l)
def ret1 (idx : List UInt8 -> Int -> Option Int) (E : Int) : Rd Opd := fun l =>
  if taken l then andThen (value idx E l) fun v => done (0, [v], [], []) else .ok ((0, [], [], []), l)
def spot (idx : List UInt8 -> Int -> Option Int) (E : Int) : Rd Int := fun l =>
  if (peek0 l).head? = some 64 then index idx 64 1048576 3 E l else .ok (0, l)
def ident (idx : List UInt8 -> Int -> Option Int) (E : Int) : Rd Int := fun l =>
  if peek1 l = [61] then andThen (value idx E l) fun v r => andThen (want E [61] r) fun _ => done v else .ok (-1, l)
section
variable (num : List UInt8 -> Int × Int) (idx : List UInt8 -> Int -> Option Int) (nam : List UInt8 -> Bool) (shp : List UInt8 -> Int) (tks : Int -> Nat)
def operands (E op : Int) : Rd Opd := fun l =>
  if op = 1 then andThen (anyNum num E l) fun x => done (x, [], [], [])
  else if op = 29 then andThen (number num E 0 255 l) fun x => done (x, [], [], [])
  else if op = 10 then andThen (shaped shp E l) fun s => done (0, [], [], s)
  else if op = 20 then andThen (phi idx E l) fun x => done (0, x.2, x.1, [])
  else if op = 21 then andThen (spot idx E l) fun n r => andThen (name nam E r) fun s r => andThen (values idx E r) fun a => done (n, a, [], s)
  else if op = 28 then ret1 idx E l
  else if op = 11 \/ op = 12 \/ op = 15 then andThen (value idx E l) fun v r => andThen (number num E 0 15 r) fun x => done (x, [v], [], [])
  else if op = 13 \/ op = 14 then andThen (value idx E l) fun v r => andThen (number num E 0 15 r) fun x r => andThen (value idx E r) fun u => done (x, [v, u], [], [])
  else if op = 23 then andThen (number num E 0 1048576 l) fun x => done (x, [], [], [])
  else if op = 24 then andThen (value idx E l) fun v r => andThen (number num E 0 1048576 r) fun x => done (x, [v], [], [])
  else if op = 26 then andThen (label idx E l) fun b => done (0, [], [b], [])
  else if op = 27 then andThen (value idx E l) fun v r => andThen (label idx E r) fun b r => andThen (label idx E r) fun c => done (0, [v], [b, c], [])
  else andThen (valuesN idx E (tks op) [] l) fun a => done (0, a, [], [])
variable (fnd : List UInt8 -> Int × Int) (mks : Int -> Int -> Int) (prt : Nat -> List UInt8 -> Bool)
def opword (E id : Int) : Rd (Int × Int) :=
  one (fun s => if (fnd s).1 = 0 \/ decide (mks (fnd s).1 (fnd s).2 ≠ 0) ≠ decide (0 <= id) then none else some (fnd s)) (fun s => if (fnd s).1 = 0 then 2 else 8) E
def start (E : Int) : Rd (Int × Int × Int) := fun l => andThen (ident idx E l) fun i r => andThen (opword fnd mks E i r) fun o => done (i, o.1, o.2)
def instrA (E a : Int) : Rd Ins := fun l =>
  andThen (start idx fnd mks E l) fun x r => andThen (operands num idx nam shp tks E x.2.1 r) fun y => done (x.2.1, x.1, y.1, x.2.2, y.2.1, y.2.2.1, y.2.2.2, a)
def instr (E : Int) : Rd Ins := fun l => instrA num idx nam shp tks fnd mks E (atOf E l) l
def insW (E : Int) : Nat -> Nat -> List Ins -> Rd (List Ins × Nat)
  | 0, n, acc => fun l => .ok ((acc, n), l)
  | f + 1, n, acc => fun l =>
    if peek0 l = [125] \/ peek1 l = [58] then .ok ((acc, n), l)
    else if 4096 <= n then .error (6, atOf E l)
    else andThen (instr num idx nam shp tks fnd mks E l) fun x => insW E f (n + 1) (acc ++ [x])
def body (E : Int) (n : Nat) : Rd (List Ins × Nat) := fun l => insW num idx nam shp tks fnd mks E (l.length + 1) n [] l
def head (E : Int) (k : Nat) : Rd Unit := one (fun s => if 256 <= k \/ s = [] \/ prt k s = false then none else some ()) (fun _ => if 256 <= k then 6 else 7) E
def block (E : Int) (k n : Nat) : Rd (List Ins × Nat) := fun l =>
  andThen (head prt E k l) fun _ r => andThen (want E [58] r) fun _ => body num idx nam shp tks fnd mks E n
def blkW (E : Int) : Nat -> Nat -> List (List Ins) -> Rd (List (List Ins) × Nat)
  | 0, n, acc => fun l => .ok ((acc, n), l)
  | f + 1, n, acc => fun l =>
    if peek0 l = [125] then .ok ((acc, n), l)
    else andThen (block num idx nam shp tks fnd mks prt E acc.length n l) fun x => blkW E f x.2 (acc ++ [x.1])
def blocks (E : Int) (n : Nat) : Rd (List (List Ins) × Nat) := fun l => blkW num idx nam shp tks fnd mks prt E (l.length + 1) n [] l
def kind (s : List UInt8) : Int := if s = [110] then 0 else if s = [105] then 1 else if s = [112] then 2 else -1
def param (E : Int) (k : Nat) : Rd Int := one (fun s => if kind s < 1 \/ 8 <= k then none else some (kind s)) (fun s => if kind s < 1 then 9 else 6) E
def parW (E : Int) : Nat -> List Int -> Rd (List Int)
  | 0, acc => fun l => .ok (acc, l)
  | f + 1, acc => fun l => if peek0 l = [41] then .ok (acc, l) else andThen (param E acc.length l) fun t => parW E f (acc ++ [t])
def params (E : Int) : Rd (List Int) := fun l => parW E (l.length + 1) [] l
def answer (E : Int) : Rd Int := one (fun s => if kind s < 0 then none else some (kind s)) (fun _ => 9) E
def function (E : Int) (n : Nat) : Rd (Fun × Nat) := fun l =>
  andThen (want E [102, 117, 110, 99] l) fun _ r => andThen (name nam E r) fun s r => andThen (want E [40] r) fun _ r => andThen (params E r) fun p r => andThen (want E [41] r) fun _ r =>
  andThen (answer E r) fun t r => andThen (want E [123] r) fun _ r => andThen (blocks num idx nam shp tks fnd mks prt E n r) fun b r => andThen (want E [125] r) fun _ => done ((s, p, t, b.1, atOf E l), b.2)
def funW (E : Int) : Nat -> Nat -> List Fun -> Rd (List Fun × Nat)
  | 0, n, acc => fun l => .ok ((acc, n), l)
  | f + 1, n, acc => fun l =>
    if l = [] then .ok ((acc, n), l)
    else if 32 <= acc.length then .error (6, atOf E l)
    else andThen (function num idx nam shp tks fnd mks prt E n l) fun x => funW E f x.2 (acc ++ [x.1])
def program (E : Int) : Rd (List Fun × Nat) := fun l => funW num idx nam shp tks fnd mks prt E (l.length + 1) 0 [] l
end
/-! ### What is read is read alike where other words stand behind, and where the words stand elsewhere -/
def sh (d : Int) (l : List Tok) : List Tok := l.map fun t => (t.1, t.2 + d)
theorem peek0_sh {d : Int} {l m : List Tok} (h : l ≠ []) : peek0 (sh d l ++ m) = peek0 l := by
  cases l with
  | nil => exact absurd rfl h
  | cons t r => rfl
theorem peek1_sh {d : Int} {l m : List Tok} (h : l.tail ≠ []) : peek1 (sh d l ++ m) = peek1 l := by
  match l, h with
  | a :: b :: r, _ => rfl
  | [_], h => exact absurd rfl h
  | [], h => exact absurd rfl h
theorem tail_sh {d : Int} {l m : List Tok} (h : l ≠ []) : (sh d l ++ m).tail = sh d l.tail ++ m := by
  cases l with
  | nil => exact absurd rfl h
  | cons t r => rfl
theorem ne_of_tail {l : List Tok} (h : l.tail ≠ []) : l ≠ [] := fun e => by subst e; exact h rfl
theorem ne_of_suffix {r l : List Tok} (h : r <:+ l) (hr : r ≠ []) : l ≠ [] := fun e => by
  subst e; exact hr (List.eq_nil_of_suffix_nil h)
def Sim {α β : Type} (d : Int) (m : List Tok) (g : α -> β) (F : Rd α) (F' : Rd β) : Prop :=
  ∀ l v r, F l = .ok (v, r) -> r <:+ l /\ (r ≠ [] -> F' (sh d l ++ m) = .ok (g v, sh d r ++ m))
def Eats {α : Type} (F : Rd α) : Prop := ∀ l v r, F l = .ok (v, r) -> l ≠ [] /\ r <:+ l.tail
theorem Sim.done {α β : Type} {d : Int} {m : List Tok} {g : α -> β} {v : α} {v' : β} (h : g v = v') : Sim d m g (done v) (done v') := by
  intro l u r h1
  cases h1
  exact ⟨List.suffix_refl _, fun _ => by rw [h]; rfl⟩
theorem Sim.then {α β γ δ : Type} {d : Int} {m : List Tok} {g : α -> β} {k : γ -> δ} {F : Rd α} {F' : Rd β} {G : α -> Rd γ} {G' : β -> Rd δ} (hF : Sim d m g F F') (hG : ∀ v, Sim d m k (G v) (G' (g v))) :
    Sim d m k (fun l => andThen (F l) G) (fun l => andThen (F' l) G') := by
  intro l v r h
  replace h : andThen (F l) G = .ok (v, r) := h
  cases e : F l with
  | error x => rw [e] at h; cases h
  | ok p =>
    obtain ⟨u, q⟩ := p
    rw [e] at h
    obtain ⟨s1, c1⟩ := hF l u q e
    obtain ⟨s2, c2⟩ := hG u q v r h
    refine ⟨s2.trans s1, fun hr => ?_⟩
    show andThen (F' (sh d l ++ m)) G' = _
    rw [c1 (ne_of_suffix s2 hr)]
    exact c2 hr
theorem one_ok {α : Type} {f : List UInt8 -> Option α} {c : List UInt8 -> Int} {E : Int} (h0 : f [] = none) {l r : List Tok} {v : α} (h : one f c E l = .ok (v, r)) : l ≠ [] /\ r = l.tail /\ f (peek0 l) = some v := by
  unfold one at h
  cases e : f (peek0 l) with
  | none => rw [e] at h; cases h
  | some u =>
    rw [e] at h
    cases h
    refine ⟨fun e2 => ?_, rfl, rfl⟩
    subst e2
    exact absurd (h0.symm.trans e) (by simp)
theorem Sim.one {α : Type} {d : Int} {m : List Tok} {f : List UInt8 -> Option α} {c c' : List UInt8 -> Int} {E E' : Int} (h0 : f [] = none) : Sim d m id (one f c E) (one f c' E') := by
  intro l v r h
  obtain ⟨hl, rfl, hv⟩ := one_ok h0 h
  refine ⟨List.tail_suffix l, fun _ => ?_⟩
  unfold G.one
  rw [peek0_sh hl, hv, tail_sh hl]; rfl
theorem Eats.one {α : Type} {f : List UInt8 -> Option α} {c : List UInt8 -> Int} {E : Int} (h0 : f [] = none) : Eats (one f c E) := by
  intro l v r h
  obtain ⟨hl, rfl, _⟩ := one_ok h0 h
  exact ⟨hl, List.suffix_refl _⟩
section
variable {d : Int} {m : List Tok} {E E' : Int} {num : List UInt8 -> Int × Int} {idx : List UInt8 -> Int -> Option Int} {nam : List UInt8 -> Bool} {shp : List UInt8 -> Int} {tks : Int -> Nat} {fnd : List UInt8 -> Int × Int} {mks : Int -> Int -> Int} {prt : Nat -> List UInt8 -> Bool}
theorem want_none {w : List UInt8} (hw : w ≠ []) : (fun s => if s = w then some () else none) ([] : List UInt8) = none := by
  show (if [] = w then some () else none) = none
  rw [if_neg (fun e => hw e.symm)]
theorem want_sim {w : List UInt8} (hw : w ≠ []) : Sim d m id (want E w) (want E' w) := Sim.one (want_none hw)
theorem index_sim {sign : UInt8} {most c : Int} : Sim d m id (index idx sign most c E) (index idx sign most c E') := Sim.one (f := mark idx sign most) rfl
theorem index_ok {sign : UInt8} {most c n : Int} {l r : List Tok} (h : index idx sign most c E l = .ok (n, r)) : l ≠ [] /\ r = l.tail /\ mark idx sign most (peek0 l) = some n := one_ok (f := mark idx sign most) rfl h
theorem value_ok {n : Int} {l r : List Tok} (h : value idx E l = .ok (n, r)) : l ≠ [] /\ r = l.tail /\ mark idx 37 1048576 (peek0 l) = some n := index_ok h
theorem label_ok {n : Int} {l r : List Tok} (h : label idx E l = .ok (n, r)) : l ≠ [] /\ r = l.tail /\ mark idx 98 255 (peek0 l) = some n := index_ok h
theorem value_sim : Sim d m id (value idx E) (value idx E') := index_sim
theorem label_sim : Sim d m id (label idx E) (label idx E') := index_sim
theorem name_sim (hn : nam [] = false) : Sim d m id (name nam E) (name nam E') := Sim.one (by simp [hn])
theorem number_sim {lo hi : Int} (hn : (num []).2 ≠ 0) : Sim d m id (number num E lo hi) (number num E' lo hi) := Sim.one (by simp [hn])
theorem anyNum_sim (hn : (num []).2 ≠ 0) : Sim d m id (anyNum num E) (anyNum num E') := Sim.one (by simp [hn])
theorem shaped_sim (hn : shp [] ≠ 0) : Sim d m id (shaped shp E) (shaped shp E') := Sim.one (by simp [hn])
theorem param_sim {k : Nat} : Sim d m id (param E k) (param E' k) := Sim.one (by simp [kind])
theorem param_eats {k : Nat} : Eats (param E k) := Eats.one (by simp [kind])
theorem answer_sim : Sim d m id (answer E) (answer E') := Sim.one (by simp [kind])
end
end Go.Proofs.YtahhbckccdigoaaGreatDoor.G
namespace Go.Proofs.YtahhbckccdigoaaGreatDoor
open Go Go.RowKit
open G (Tok Er Ins Fun peek0 peek1 atOf)
theorem hide {p : Prop} (h : p) : Hid p := h
def bs (l : List UInt8) : ByteArray := ⟨l.toArray⟩
theorem bs_data (l : List UInt8) : (bs l).data.toList = l := by simp [bs]
theorem bs_size (l : List UInt8) : (bs l).size = l.length := by simp [bs, ByteArray.size]
theorem bs_of (s : ByteArray) : bs s.data.toList = s := by cases s; simp [bs]
def W80 (w w' : World) : Prop := ∀ (k : Nat) (cs : Array Value) (fz : Nat × Nat), w.heap[k]? = some (.cells cs 152 fz) -> w'.heap[k]? = some (.cells cs 152 fz)
def A0 (a : Nat) (w w' : World) : Prop := ∀ v, w.cell? ⟨a, 0, none⟩ = some v -> w'.cell? ⟨a, 0, none⟩ = some v
def Kp (B a : Nat) (w w' : World) : Prop := (w'.os = w.os /\ W80 w w') /\ w'.tape = w.tape /\ (w'.output = w.output /\ A0 a w w') /\ w.heap.size <= w'.heap.size /\ ∀ k, k < B -> k ≠ a -> w'.heap[k]? = w.heap[k]?
theorem Kp.refl (B a : Nat) (w : World) : Kp B a w w := ⟨⟨rfl, fun _ _ _ h => h⟩, rfl, ⟨rfl, fun _ h => h⟩, Nat.le_refl _, fun _ _ _ => rfl⟩
theorem Kp.trans {B a : Nat} {u v w : World} (h : Kp B a u v) (k : Kp B a v w) : Kp B a u w :=
  ⟨⟨k.1.1.trans h.1.1, fun i cs fz e => k.1.2 i cs fz (h.1.2 i cs fz e)⟩, k.2.1.trans h.2.1, ⟨k.2.2.1.1.trans h.2.2.1.1, fun x e => k.2.2.1.2 x (h.2.2.1.2 x e)⟩, Nat.le_trans h.2.2.2.1 k.2.2.2.1, fun i h1 h2 => (k.2.2.2.2 i h1 h2).trans (h.2.2.2.2 i h1 h2)⟩
theorem Kp.mono {B B' a : Nat} {u v : World} (h : Kp B a u v) (hB : B' <= B) : Kp B' a u v := ⟨h.1, h.2.1, h.2.2.1, h.2.2.2.1, fun i h1 => h.2.2.2.2 i (Nat.lt_of_lt_of_le h1 hB)⟩
theorem Kp.size {B a : Nat} {u v : World} (h : Kp B a u v) : u.heap.size <= v.heap.size := h.2.2.2.1
theorem Kp.of_belowW {B a : Nat} {u v : World} (h : Below u.heap.size u v) (hB : B <= u.heap.size) : Kp B a u v :=
  ⟨⟨h.os, fun k cs fz e => (h.block k (Array.getElem?_eq_some_iff.1 e).1).trans e⟩, h.tape, ⟨h.output, fun x e => (h.cell (p := ⟨a, 0, none⟩) (World.block_lt_of_cell? u _ e)).trans e⟩, h.size, fun i h1 _ => h.block i (by omega)⟩
theorem Kp.below {B a : Nat} {u v : World} (h : Kp B a u v) (ha : B <= a) : Below B u v := ⟨h.1.1, h.2.1, h.2.2.1.1, h.2.2.2.1, fun i h1 => h.2.2.2.2 i h1 (by omega)⟩
theorem Kp.alloc {B a : Nat} {u w : World} (h : Kp B a u w) (hB : B <= w.heap.size) (o : Obj) : Kp B a u (w.alloc o) :=
  h.trans (Kp.of_belowW ((Below.refl _ w).alloc (Nat.le_refl _) o) hB)
def N80 (u w : World) (q : Nat) : Prop := u.heap.size <= q \/ ∀ (cs : Array Value) (fz : Nat × Nat), w.heap[q]? ≠ some (.cells cs 152 fz)
theorem Kp.setCell {B a : Nat} {u w : World} (h : Kp B a u w) {p : Addr} (hp : (p.block = a /\ p.off ≠ 0) \/ (B <= p.block /\ p.block ≠ a)) (hn : N80 u w p.block) (x : Value) : Kp B a u (w.setCell p x) := by
  have hb := (Below.refl 0 w).setCell (Nat.zero_le p.block) x
  refine ⟨⟨hb.os.trans h.1.1, fun k cs fz e => ?_⟩, hb.tape.trans h.2.1, ⟨hb.output.trans h.2.2.1.1, fun v e => ?_⟩, Nat.le_trans h.size hb.size, fun k h1 h2 => (Below.heap_setCell w p x k (by omega)).trans (h.2.2.2.2 k h1 h2)⟩
  . have e2 := h.1.2 k cs fz e
    rw [Below.heap_setCell w p x k ?_]
    . exact e2
    . intro hk
      rcases hn with hn | hn
      . have := (Array.getElem?_eq_some_iff.1 e).1
        omega
      . rw [hk] at e2; exact hn cs fz e2
  . rw [World.cell?_setCell_other _ _ _ _ ?_]
    . exact h.2.2.1.2 v e
    . intro e2
      subst e2
      rcases hp with hp | hp
      . exact hp.2 rfl
      . exact hp.2 rfl
theorem Kp.grown {B a : Nat} {u w w' : World} {row : Option Nat} (h : Kp B a u w) (hg : w.grownBy w' row) (hB : B <= w.heap.size) (hr : ∀ k, row = some k -> B <= k /\ k ≠ a) (hn : ∀ k, row = some k -> N80 u w k) : Kp B a u w' := by
  refine ⟨⟨hg.os.trans h.1.1, fun k cs fz e => ?_⟩, hg.tape.trans h.2.1, ⟨hg.output.trans h.2.2.1.1, fun v e => ?_⟩, Nat.le_trans h.size hg.size, fun k h1 h2 => (hg.block k (by omega) (fun e => by have := hr k e.symm; omega)).trans (h.2.2.2.2 k h1 h2)⟩
  . have e2 := h.1.2 k cs fz e
    rw [hg.block k (Array.getElem?_eq_some_iff.1 e2).1 ?_]
    . exact e2
    . intro hk
      rcases hn k hk.symm with hn | hn
      . have := (Array.getElem?_eq_some_iff.1 e).1
        omega
      . exact hn cs fz e2
  . exact hg.cell (h.2.2.1.2 v e) (fun e2 => (hr a e2.symm).2 rfl)
theorem Kp.own {B a b e s n : Nat} {v : Value} {xs : List Value} {u w : World} (h : Kp B a u w) (ho : u.ownsRow b e s v n xs) (hv : ∀ g, v.ownBlock = some g -> g < B /\ g ≠ a) : w.ownsRow b e s v n xs := by
  refine ⟨ho.1, ?_⟩
  rcases ho.2 with hn | ⟨g, cap, cur, hv2, hb, hg, rest⟩
  . exact .inl hn
  . have := hv g (by rw [hv2]; rfl)
    exact .inr ⟨g, cap, cur, hv2, hb, (h.2.2.2.2 g this.1 this.2).trans hg, rest⟩
theorem own_base {b b' e s n : Nat} {v : Value} {xs : List Value} {w : World} (h : w.ownsRow b e s v n xs) (hb : b' <= b) : w.ownsRow b' e s v n xs := by
  refine ⟨h.1, ?_⟩
  rcases h.2 with hn | ⟨g, cap, cur, hv2, hb2, rest⟩
  . exact .inl hn
  . exact .inr ⟨g, cap, cur, hv2, by omega, rest⟩
theorem own_kind {b e s n : Nat} {v : Value} {xs : List Value} {w : World} (h : w.ownsRow b e s v n xs) {g : Nat} (hg : v.ownBlock = some g) : ∃ c, w.heap[g]? = some (.cells c e (0, 0)) := by
  rcases h.2 with ⟨rfl, _⟩ | ⟨g', cap, cur, rfl, _, hh, _⟩
  . simp [Value.ownBlock] at hg
  . simp [Value.ownBlock] at hg
    subst hg
    exact ⟨cur, hh⟩
theorem own_not80 {u w : World} {b e s n : Nat} {v : Value} {xs : List Value} (h : w.ownsRow b e s v n xs) (he : e ≠ 152) : ∀ k, v.ownBlock = some k -> N80 u w k := fun k hk => .inr fun cs fz hc => by
  obtain ⟨c2, h2⟩ := own_kind h hk
  rw [hc] at h2
  simp at h2
  exact he h2.2.1.symm
theorem own_ne {b e s n g : Nat} {v : Value} {xs : List Value} {w : World} (h : w.ownsRow b e s v n xs) {c : Array Value} {t : TypeId} {fz : Nat × Nat} (hg : w.heap[g]? = some (.cells c t fz)) (ht : t ≠ e) : v.ownBlock ≠ some g := by
  intro hv
  obtain ⟨c2, h2⟩ := own_kind h hv
  rw [hg] at h2
  simp at h2
  exact ht h2.2.1
theorem own_apart {b e s n b2 e2 s2 n2 : Nat} {v v2 : Value} {xs xs2 : List Value} {w : World} (h : w.ownsRow b e s v n xs) (h2 : w.ownsRow b2 e2 s2 v2 n2 xs2) (ht : e ≠ e2) : v.ownBlock = none \/ v.ownBlock ≠ v2.ownBlock := by
  cases hv : v.ownBlock with
  | none => exact .inl rfl
  | some g =>
    refine .inr fun e => ?_
    obtain ⟨c, hc⟩ := own_kind h hv
    exact own_ne h2 hc ht e.symm
def cellsK : List Tok -> List Value
  | [] => []
  | t :: r => .string (bs t.1) :: .int .i64 t.2 :: cellsK r
theorem cellsK_at : ∀ (L : List Tok) (j : Nat) (t : Tok), L[j]? = some t -> (cellsK L)[2 * j]? = some (.string (bs t.1)) /\ (cellsK L)[2 * j + 1]? = some (.int .i64 t.2) := by
  intro L
  induction L with
  | nil => intro j t h; simp at h
  | cons x r ih =>
    intro j t h
    cases j with
    | zero => simp at h; subst h; exact ⟨rfl, rfl⟩
    | succ j =>
      simp at h
      have := ih j t h
      rw [show 2 * (j + 1) = 2 * j + 1 + 1 by omega]
      simpa [cellsK] using this
def Rdr (B a : Nat) (L : List Tok) (E : Int) (n : Nat) (l : List Tok) (w : World) : Prop :=
  ∃ v, w.heap[a]? = some (.cells #[v, .int .i64 ((L.length - l.length : Nat) : Int), .int .i64 E, .int .i64 (n : Int)] 75 (0, 0)) /\ w.ownsRow 0 96 2 v L.length (cellsK L) /\
    a < B /\ (∀ g, v.ownBlock = some g -> g < B) /\ l <:+ L /\ (L.length <= 131072 /\ ∀ t ∈ L, t.1.length <= 65536) /\ n <= 4096 /\ B <= w.heap.size
theorem Rdr.not80 {B a : Nat} {L : List Tok} {E : Int} {n : Nat} {l : List Tok} {u w : World} (h : Rdr B a L E n l w) : N80 u w a := .inr fun cs fz hc => by
  obtain ⟨v, h1, _⟩ := h
  rw [h1] at hc
  simp at hc
theorem Rdr.lower {B B' B'' a : Nat} {L L' : List Tok} {E E' : Int} {n n' : Nat} {l l' : List Tok} {w w' : World} (h : Rdr B a L E n l w) (k : Kp B' a w w') (r : Rdr B'' a L' E' n' l' w') : Rdr B a L' E' n' l' w' := by
  obtain ⟨v, h1, h2, h3, h4, h5, h6, h7, h8⟩ := h
  obtain ⟨v', r1, r2, r3, r4, r5, r6, r7, r8⟩ := r
  have e := k.2.2.1.2 v (by simp [World.cell?, h1])
  have e' : w'.cell? ⟨a, 0, none⟩ = some v' := by simp [World.cell?, r1]
  rw [e'] at e
  cases e
  exact ⟨v, r1, r2, h3, h4, r5, r6, r7, Nat.le_trans h8 k.size⟩
theorem Rdr.mono {B B' a : Nat} {L : List Tok} {E : Int} {n : Nat} {l : List Tok} {w : World} (h : Rdr B a L E n l w) (hB : B <= B') (hw : B' <= w.heap.size) : Rdr B' a L E n l w := by
  obtain ⟨v, h1, h2, h3, h4, h5, h6, h7, h8⟩ := h
  exact ⟨v, h1, h2, by omega, fun g hg => Nat.lt_of_lt_of_le (h4 g hg) hB, h5, h6, h7, hw⟩
theorem Rdr.keep {B a : Nat} {L : List Tok} {E : Int} {n : Nat} {l : List Tok} {w w' : World} (h : Rdr B a L E n l w) (hs : w.heap.size <= w'.heap.size) (hb : ∀ k, k < B -> w'.heap[k]? = w.heap[k]?) : Rdr B a L E n l w' := by
  obtain ⟨v, h1, h2, h3, h4, h5, h6, h7, h8⟩ := h
  refine ⟨v, (hb a h3).trans h1, ?_, h3, h4, h5, h6, h7, by omega⟩
  refine ⟨h2.1, ?_⟩
  rcases h2.2 with hn | ⟨g, cap, cur, hv2, hbb, hg, rest⟩
  . exact .inl hn
  . exact .inr ⟨g, cap, cur, hv2, hbb, (hb g (h4 g (by rw [hv2]; rfl))).trans hg, rest⟩
theorem Rdr.below {B a : Nat} {L : List Tok} {E : Int} {n : Nat} {l : List Tok} {w w' : World} (h : Rdr B a L E n l w) (hb : Below B w w') : Rdr B a L E n l w' := h.keep hb.size hb.block
theorem Rdr.size {B a : Nat} {L : List Tok} {E : Int} {n : Nat} {l : List Tok} {w : World} (h : Rdr B a L E n l w) : B <= w.heap.size := by
  obtain ⟨v, h1, h2, h3, h4, h5, h6, h7, h8⟩ := h; exact h8
theorem Rdr.suffix {B a : Nat} {L : List Tok} {E : Int} {n : Nat} {l : List Tok} {w : World} (h : Rdr B a L E n l w) : l <:+ L /\ L.length <= 131072 /\ n <= 4096 /\ a < B := by
  obtain ⟨v, h1, h2, h3, h4, h5, h6, h7, h8⟩ := h; exact ⟨h5, h6.1, h7, h3⟩
theorem Rdr.short {B a : Nat} {L : List Tok} {E : Int} {n : Nat} {l : List Tok} {w : World} (h : Rdr B a L E n l w) : (peek0 l).length <= 65536 := by
  obtain ⟨v, h1, h2, h3, h4, h5, h6, h7, h8⟩ := h
  cases l with
  | nil => simp [peek0]
  | cons t r => exact h6.2 t (h5.subset (by simp))
theorem Rdr.cells {B a : Nat} {L : List Tok} {E : Int} {n : Nat} {l : List Tok} {w : World} (h : Rdr B a L E n l w) :
    a < w.heap.size /\ ∃ v, w.cell? ⟨a, 0, none⟩ = some v /\ w.cell? ⟨a, 1, none⟩ = some (.int .i64 ((L.length - l.length : Nat) : Int)) /\ w.cell? ⟨a, 2, none⟩ = some (.int .i64 E) /\ w.cell? ⟨a, 3, none⟩ = some (.int .i64 (n : Int)) /\
      w.frozen? ⟨a, 0, none⟩ = false /\ w.frozen? ⟨a, 1, none⟩ = false /\ w.frozen? ⟨a, 2, none⟩ = false /\ w.frozen? ⟨a, 3, none⟩ = false /\
      ((v = .slice none 0 0 /\ L = []) \/ ∃ g cap, v = .slice (some ⟨g, 0, none⟩) L.length cap /\ L.length <= cap /\ cap <= maxLen /\ (∀ j t, L[j]? = some t -> w.cell? ⟨g, j * 2, none⟩ = some (.string (bs t.1)) /\ w.cell? ⟨g, j * 2 + 1, none⟩ = some (.int .i64 t.2)) /\ ∀ j, w.frozen? ⟨g, j, none⟩ = false) := by
  obtain ⟨v, h1, h2, h3, h4, h5, h6, h7, h8⟩ := h
  refine ⟨by omega, v, by simp [World.cell?, h1], by simp [World.cell?, h1], by simp [World.cell?, h1], by simp [World.cell?, h1], by simp [World.frozen?, h1], by simp [World.frozen?, h1], by simp [World.frozen?, h1], by simp [World.frozen?, h1], ?_⟩
  rcases h2.2 with ⟨hv, hn⟩ | ⟨g, cap, cur, hv2, hbb, hg, hc1, hc2, hc3, hc4⟩
  . exact .inl ⟨hv, List.length_eq_zero_iff.1 hn⟩
  . refine .inr ⟨g, cap, hv2, hc1, hc2, ?_, ?_⟩
    . intro j t hj
      have hc := h2.cells (g := g) (by rw [hv2]; rfl)
      obtain ⟨k1, k2⟩ := cellsK_at L j t hj
      have e1 := hc _ _ k1
      have e2 := hc _ _ k2
      rw [Addr.add_lit, Nat.zero_add, Nat.mul_comm] at e1 e2
      exact ⟨e1, e2⟩
    . intro j; simp [World.frozen?, hg]
def Pair (w : World) (g : Nat) (a b : Value) : Prop :=
  w.cell? ⟨g, 0, none⟩ = some a /\ w.cell? ⟨g, 1, none⟩ = some b /\ w.frozen? ⟨g, 0, none⟩ = false /\ w.frozen? ⟨g, 1, none⟩ = false /\ g < w.heap.size
theorem Pair.new (w : World) (t : TypeId) {a b : Value} : Pair (w.alloc (.cells #[a, b] t)) w.heap.size a b := by
  refine ⟨?_, ?_, ?_, ?_, by simp⟩ <;> simp [go_sem]
theorem Pair.below {w w1 : World} {g : Nat} {a b : Value} (h : Pair w g a b) (hb : Below w.heap.size w w1) : Pair w1 g a b := by
  obtain ⟨c0, c1, f0, f1, z⟩ := h
  exact ⟨(hb.cell z).trans c0, (hb.cell z).trans c1, (hb.frozen z).trans f0, (hb.frozen z).trans f1, Nat.lt_of_lt_of_le z hb.size⟩
theorem Pair.kept {B a : Nat} {w w1 : World} {g : Nat} {x y : Value} (h : Pair w g x y) (hb : Kp B a w w1) (hg : g < B) (ha : g ≠ a) : Pair w1 g x y := by
  obtain ⟨c0, c1, f0, f1, z⟩ := h
  have e := hb.2.2.2.2 g hg ha
  exact ⟨(World.cell?_of_block e).trans c0, (World.cell?_of_block e).trans c1, (World.frozen?_of_block e).trans f0, (World.frozen?_of_block e).trans f1, Nat.lt_of_lt_of_le z hb.size⟩
theorem below_box (w : World) (o : Obj) : Below w.heap.size w (w.alloc o) := (Below.refl _ _).alloc (Nat.le_refl _) _
theorem below_step {a b c : World} (h : Below a.heap.size a b) (k : Below b.heap.size b c) : Below a.heap.size a c := h.trans (k.mono h.size)
theorem Rdr.step {B a : Nat} {L : List Tok} {E : Int} {n : Nat} {l : List Tok} {w w' : World} (h : Rdr B a L E n l w) (hb : Below w.heap.size w w') : Rdr B a L E n l w' := h.below (hb.mono h.size)
theorem Rdr.word {L l : List Tok} (h : l <:+ L) (i : Nat) : L[L.length - l.length + i]? = l[i]? := by
  obtain ⟨p, rfl⟩ := h
  rw [List.getElem?_append_right (by simp)]
  congr 1
  simp
end Go.Proofs.YtahhbckccdigoaaGreatDoor
namespace Go.Proofs.YtahhbckccdigoaaGreatDoor
open Go Go.RowKit
def begins (c : UInt8) (l : List UInt8) : Bool := l.head? == some c
def behindOf (c : UInt8) (l : List UInt8) : List UInt8 := if begins c l then l.tail else l
theorem ret_bool {a b : Bool} (h : a = b) : Ending.returned (.bool a) = .returned (.bool b) := by rw [h]
theorem ext_list (s : ByteArray) (a b : Nat) : (s.extract a b).data.toList = (s.data.toList.drop a).take (b - a) := by
  simp [ByteArray.data_extract, Array.toList_extract]
theorem begins_cut (c : UInt8) (s : ByteArray) : ((s.extract 0 1).toList == [c]) = begins c s.data.toList := by
  rw [ByteArray.toList_eq, ext_list]
  unfold begins
  cases s.data.toList with
  | nil => rfl
  | cons x r => simp
theorem begins_none (c : UInt8) (s : ByteArray) (h : ¬ 1 <= s.size) : begins c s.data.toList = false := by
  have hl : s.data.toList.length = s.size := by simp
  have : s.data.toList = [] := List.length_eq_zero_iff.1 (by omega)
  rw [this]; rfl
theorem has_any (c : UInt8) (s : ByteArray) (w : World) : Calls Tryz.prog 172 #[.string s, .string ⟨#[c]⟩] w fun e w' => e = .returned (.bool (begins c s.data.toList)) /\ w' = w := by
  have HB := hide (begins_cut c s)
  by_cases h : 1 <= s.size
  . go_enter Tryz.func172, Tryz.ntmps172
    go_wp2
    go_ret
    exact ⟨ret_bool HB.out, rfl⟩
  . have HN := hide (begins_none c s h)
    go_enter Tryz.func172, Tryz.ntmps172
    go_wp2
    go_ret
    exact ⟨ret_bool HN.out.symm, rfl⟩
theorem prefix_any (c : UInt8) (s : ByteArray) (w : World) : Calls Tryz.prog 168 #[.string s, .string ⟨#[c]⟩] w fun e w' => e = .returned (.bool (begins c s.data.toList)) /\ w' = w := by
  go_enter Tryz.func168, Tryz.ntmps168
  go_wp2_with fail
  refine (has_any c s _).mono ?_; rintro e w1 ⟨rfl, rfl⟩
  go_wp2_with fail
  go_ret
  exact ⟨rfl, rfl⟩
theorem tail_cut (c : UInt8) (s : ByteArray) (h : begins c s.data.toList = true) : s.extract 1 s.size = bs (behindOf c s.data.toList) := by
  have e : (s.extract 1 s.size).data.toList = s.data.toList.tail := by
    rw [ext_list]
    have hl : s.data.toList.length = s.size := by simp
    rw [List.take_of_length_le (by simp)]
    simp
  rw [<- bs_of (s.extract 1 s.size), e]
  unfold behindOf; rw [if_pos h]
theorem cut_lite (c : UInt8) (s : ByteArray) (w : World) : Calls Tryz.prog 165 #[.string s, .string ⟨#[c]⟩] w fun e w' => e = .returned (.tuple #[.string (bs (behindOf c s.data.toList)), .bool (begins c s.data.toList)]) /\ w' = w := by
  have HT := hide (tail_cut c s)
  have HN := hide (begins_none c s)
  have HO : Hid (begins c s.data.toList = false -> bs (behindOf c s.data.toList) = s) := hide (fun h => by unfold behindOf; rw [if_neg (by simp [h]), bs_of])
  go_enter Tryz.func165, Tryz.ntmps165
  go_wp2_with fail
  refine (has_any c s _).mono ?_; rintro e w1 ⟨rfl, rfl⟩
  cases hb : begins c s.data.toList with
  | true =>
    have HC := hide hb
    have h1 : 1 <= s.size := by
      by_cases h : 1 <= s.size
      . exact h
      . rw [HN.out h] at hb; cases hb
    have HT := hide (HT.out hb)
    go_wp2_with fail
    go_ret2
    rw [HT.out, HC.out]
    exact ⟨rfl, rfl⟩
  | false =>
    have HC := hide hb
    have HO := hide (HO.out hb)
    go_wp2_with fail
    go_ret2
    rw [HO.out, HC.out]
    exact ⟨rfl, rfl⟩
theorem cut_any (c : UInt8) (s : ByteArray) (w : World) : Calls Tryz.prog 148 #[.string s, .string ⟨#[c]⟩] w fun e w' => e = .returned (.tuple #[.string (bs (behindOf c s.data.toList)), .bool (begins c s.data.toList)]) /\ w' = w := by
  go_enter Tryz.func148, Tryz.ntmps148
  go_wp2_with fail
  refine (cut_lite c s _).mono ?_; rintro e w1 ⟨rfl, rfl⟩
  go_wp2_with fail
  go_ret2
  exact ⟨rfl, rfl⟩
end Go.Proofs.YtahhbckccdigoaaGreatDoor
namespace Go.Proofs.YtahhbckccdigoaaGreatDoor
open Go Go.RowKit
open G (Tok Er Ins Fun peek0 peek1 atOf)
theorem need_ok (c : Int) (t : Value) (p : Int) (w : World) : Calls Tryz.prog 101 #[.bool true, .int .i64 c, .agg #[t, .int .i64 p]] w fun e w' => e = .returned (.tuple #[]) /\ Below w.heap.size w w' := by
  go_enter Tryz.func101, Tryz.ntmps101
  go_wp2_with fail
  go_end0
  exact ⟨rfl, below_box _ _⟩
def thrown (c p : Int) : Ending := .panicked [{ v := .iface 28 (.agg #[.int .i64 c, .int .i64 p]), recovered := false }]
theorem bodyPost_thrown {P : Program} {fn : Func} {R : Ending -> World -> Prop} {t : Array Value} {w : World} {c p : Int} (hR : R (thrown c p) w) : bodyPost P fn R (.panic [{ v := .iface 28 (.agg #[.int .i64 c, .int .i64 p]), recovered := false }]) { tmps := t, defers := [] } w := ⟨rfl, hR⟩
theorem need_no (c : Int) (t : Value) (p : Int) (w : World) : Calls Tryz.prog 101 #[.bool false, .int .i64 c, .agg #[t, .int .i64 p]] w fun e w' => e = thrown c p /\ Below w.heap.size w w' := by
  go_enter Tryz.func101, Tryz.ntmps101
  go_wp2_with fail
  exact bodyPost_thrown ⟨rfl, below_box w _⟩
def Saw1 (l : List Tok) (w : World) (e : Ending) (w' : World) : Prop := ∃ z : Int, e = .returned (.agg #[.string (bs (peek1 l)), .int .i64 z]) /\ Below w.heap.size w w'
theorem peek0_any {B a : Nat} {L : List Tok} {E : Int} {n : Nat} {l : List Tok} (w : World) (h : Rdr B a L E n l w) :
    Calls Tryz.prog 102 #[.pointer (some ⟨a, 0, none⟩), .int .i64 0] w fun e w' => e = .returned (.agg #[.string (bs (peek0 l)), .int .i64 (atOf E l)]) /\ Below w.heap.size w w' := by
  have hsuf := h.suffix
  have hwd := Rdr.word hsuf.1 0
  obtain ⟨v, c0, c1, c2, c3, f0, f1, f2, f3, hv⟩ := (h.step (below_box w (.cells #[.string ⟨#[]⟩, .int .i64 0] 96))).cells.2
  obtain ⟨p0, p1, p2, p3, p4⟩ := Pair.new w 96 (a := .string ⟨#[]⟩) (b := .int .i64 0)
  have HB := hide (below_box w (.cells #[.string ⟨#[]⟩, .int .i64 0] 96))
  have hlen : L.length - l.length + l.length = L.length := Nat.sub_add_cancel hsuf.1.length_le
  have hL := hsuf.2.1
  clear h hsuf
  go_enter Tryz.func102, Tryz.ntmps102
  go_upto_region 1 with fail
  show Code.wp _ _ _ _ (w.alloc (.cells #[.string ⟨#[]⟩, .int .i64 0] 96))
  generalize w.alloc (.cells #[.string ⟨#[]⟩, .int .i64 0] 96) = W at *
  generalize L.length - l.length = j at *
  cases hl : l[0]? with
  | none =>
    have hll : l.length <= 0 := List.getElem?_eq_none_iff.1 hl
    have HP : Hid (bs (peek0 l) = ⟨#[]⟩ /\ atOf E l = E) := hide (by
      match l, hll with
      | [], _ => exact ⟨rfl, rfl⟩)
    clear hl hwd
    rcases hv with ⟨rfl, rfl⟩ | ⟨g, cap, rfl, hc1, hc2, hcell, hfz⟩
    . have hj : j = 0 := by simp only [List.length_nil] at hlen; omega
      subst hj
      clear hlen
      go_wp2_with fail
      refine bodyPost_ret (v := .agg #[.string ⟨#[]⟩, .int .i64 E]) (by simp [results, Tryz.results102, go_sem, p0, p1]) rfl ⟨?_, (HB.out.setCell (Nat.le_refl _) _).setCell (Nat.le_refl _) _⟩
      rw [HP.out.1, HP.out.2]
    . have hj : ¬ ((j : Int) < L.length) := by omega
      clear hcell hfz
      go_wp2_with fail
      refine bodyPost_ret (v := .agg #[.string ⟨#[]⟩, .int .i64 E]) (by simp [results, Tryz.results102, go_sem, p0, p1]) rfl ⟨?_, (HB.out.setCell (Nat.le_refl _) _).setCell (Nat.le_refl _) _⟩
      rw [HP.out.1, HP.out.2]
  | some t =>
    rw [hl] at hwd
    rw [Nat.add_zero] at hwd
    have HP : Hid (bs (peek0 l) = bs t.1 /\ atOf E l = t.2) := hide (by
      match l, hl with
      | x :: r, hl => simp at hl; subst hl; exact ⟨rfl, rfl⟩)
    have hlt : 0 < l.length := (List.getElem?_eq_some_iff.1 hl).1
    rcases hv with ⟨rfl, rfl⟩ | ⟨g, cap, rfl, hc1, hc2, hcell, hfz⟩
    . simp only [List.length_nil] at hlen; omega
    . have hj : (j : Int) < L.length := by omega
      have hj2 : j < cap := by omega
      obtain ⟨k0, k1⟩ := hcell _ _ hwd
      clear hcell hl hwd hfz
      unfold maxLen at hc2
      go_wp2_with fail
      refine bodyPost_ret (v := .agg #[.string (bs t.1), .int .i64 t.2]) (by simp [results, Tryz.results102, go_sem, p0, p1]) rfl ⟨?_, (HB.out.setCell (Nat.le_refl _) _).setCell (Nat.le_refl _) _⟩
      rw [HP.out.1, HP.out.2]
theorem peek1_any {B a : Nat} {L : List Tok} {E : Int} {n : Nat} {l : List Tok} (w : World) (h : Rdr B a L E n l w) :
    Calls Tryz.prog 102 #[.pointer (some ⟨a, 0, none⟩), .int .i64 1] w (Saw1 l w) := by
  have hsuf := h.suffix
  have hwd := Rdr.word hsuf.1 1
  obtain ⟨v, c0, c1, c2, c3, f0, f1, f2, f3, hv⟩ := (h.step (below_box w (.cells #[.string ⟨#[]⟩, .int .i64 0] 96))).cells.2
  obtain ⟨p0, p1, p2, p3, p4⟩ := Pair.new w 96 (a := .string ⟨#[]⟩) (b := .int .i64 0)
  have HB := hide (below_box w (.cells #[.string ⟨#[]⟩, .int .i64 0] 96))
  have hlen : L.length - l.length + l.length = L.length := Nat.sub_add_cancel hsuf.1.length_le
  have hL := hsuf.2.1
  clear h hsuf
  go_enter Tryz.func102, Tryz.ntmps102
  go_upto_region 1 with fail
  show Code.wp _ _ _ _ (w.alloc (.cells #[.string ⟨#[]⟩, .int .i64 0] 96))
  generalize w.alloc (.cells #[.string ⟨#[]⟩, .int .i64 0] 96) = W at *
  generalize L.length - l.length = j at *
  cases hl : l[1]? with
  | none =>
    have hll : l.length <= 1 := List.getElem?_eq_none_iff.1 hl
    have HP : Hid (bs (peek1 l) = ⟨#[]⟩) := hide (by
      match l, hll with
      | [], _ => rfl
      | [_], _ => rfl)
    clear hl hwd
    rcases hv with ⟨rfl, rfl⟩ | ⟨g, cap, rfl, hc1, hc2, hcell, hfz⟩
    . have hj : j = 0 := by simp only [List.length_nil] at hlen; omega
      subst hj
      clear hlen
      go_wp2_with fail
      refine bodyPost_ret (v := .agg #[.string ⟨#[]⟩, .int .i64 E]) (by simp [results, Tryz.results102, go_sem, p0, p1]) rfl ⟨E, ?_, (HB.out.setCell (Nat.le_refl _) _).setCell (Nat.le_refl _) _⟩
      rw [HP.out]
    . have hj : ¬ ((j : Int) + 1 < L.length) := by omega
      clear hcell hfz
      go_wp2_with fail
      refine bodyPost_ret (v := .agg #[.string ⟨#[]⟩, .int .i64 E]) (by simp [results, Tryz.results102, go_sem, p0, p1]) rfl ⟨E, ?_, (HB.out.setCell (Nat.le_refl _) _).setCell (Nat.le_refl _) _⟩
      rw [HP.out]
  | some t =>
    rw [hl] at hwd
    have HP : Hid (bs (peek1 l) = bs t.1) := hide (by
      match l, hl with
      | x :: y :: r, hl => simp at hl; subst hl; rfl)
    have hlt : 1 < l.length := (List.getElem?_eq_some_iff.1 hl).1
    rcases hv with ⟨rfl, rfl⟩ | ⟨g, cap, rfl, hc1, hc2, hcell, hfz⟩
    . simp only [List.length_nil] at hlen; omega
    . have hj : (j : Int) + 1 < L.length := by omega
      have hj2 : j + 1 < cap := by omega
      obtain ⟨k0, k1⟩ := hcell _ _ hwd
      clear hcell hl hwd hfz
      unfold maxLen at hc2
      go_wp2_with fail
      refine bodyPost_ret (v := .agg #[.string (bs t.1), .int .i64 t.2]) (by simp [results, Tryz.results102, go_sem, p0, p1]) rfl ⟨t.2, ?_, (HB.out.setCell (Nat.le_refl _) _).setCell (Nat.le_refl _) _⟩
      rw [HP.out]
end Go.Proofs.YtahhbckccdigoaaGreatDoor
namespace Go.Proofs.YtahhbckccdigoaaGreatDoor
open Go Go.RowKit
open G (Tok Er Ins Fun peek0 peek1 atOf)
theorem Rdr.next {B a : Nat} {L : List Tok} {E : Int} {n : Nat} {l : List Tok} {w : World} (h : Rdr B a L E n l w) (hl : l ≠ []) :
    Rdr B a L E n l.tail (w.setCell ⟨a, 1, none⟩ (.int .i64 (((L.length - l.length : Nat) : Int) + 1))) := by
  obtain ⟨v, h1, h2, h3, h4, h5, h6, h7, h8⟩ := h
  have hsz : (w.setCell ⟨a, 1, none⟩ (.int .i64 (((L.length - l.length : Nat) : Int) + 1))).heap.size = w.heap.size := by simp [World.setCell]
  refine ⟨v, ?_, ?_, h3, h4, (List.tail_suffix l).trans h5, h6, h7, by rw [hsz]; exact h8⟩
  . rw [heap_setCell_same w a 1 _ 75 _ h1]
    have e : ((L.length - l.length : Nat) : Int) + 1 = ((L.length - l.tail.length : Nat) : Int) := by
      have := h5.length_le
      cases l with
      | nil => exact absurd rfl hl
      | cons t r => simp at *; omega
    rw [e]; rfl
  . refine ⟨h2.1, ?_⟩
    rcases h2.2 with hn | ⟨g, cap, cur, hv2, hbb, hg, rest⟩
    . exact .inl hn
    . refine .inr ⟨g, cap, cur, hv2, hbb, ?_, rest⟩
      rw [Below.heap_setCell _ _ _ _ ?_]
      . exact hg
      . intro e
        have e : g = a := e
        subst e
        rw [h1] at hg
        simp at hg
def Took (B a : Nat) (L : List Tok) (E : Int) (n : Nat) (l : List Tok) (w : World) (e : Ending) (w' : World) : Prop :=
  e = .returned (.agg #[.string (bs (peek0 l)), .int .i64 (atOf E l)]) /\ Kp w.heap.size a w w' /\ (l ≠ [] -> Rdr B a L E n l.tail w')
theorem take_any {B a : Nat} {L : List Tok} {E : Int} {n : Nat} {l : List Tok} (w : World) (h : Rdr B a L E n l w) :
    Calls Tryz.prog 112 #[.pointer (some ⟨a, 0, none⟩)] w (Took B a L E n l w) := by
  have hb0 := below_box w (.cells #[.string ⟨#[]⟩, .int .i64 0] 96)
  have H0 := hide (h.step hb0)
  have P0 := hide (Pair.new w 96 (a := .string ⟨#[]⟩) (b := .int .i64 0))
  have HB := hide hb0
  have hl := h.suffix
  have hB := h.size
  have ha : a < w.heap.size := Nat.lt_of_lt_of_le hl.2.2.2 h.size
  clear hb0 h
  go_enter Tryz.func112, Tryz.ntmps112
  go_upto_region 1 with fail
  show Code.wp _ _ _ _ (w.alloc (.cells #[.string ⟨#[]⟩, .int .i64 0] 96))
  generalize w.alloc (.cells #[.string ⟨#[]⟩, .int .i64 0] 96) = W at *
  go_wp2_with fail
  refine (peek0_any _ H0.out).mono ?_; rintro e W1 ⟨rfl, b1⟩
  have H1 := hide ((H0.out.step b1).step (below_box W1 (.cells #[.string (bs (peek0 l)), .int .i64 (atOf E l)] 96)))
  have P1 := hide ((P0.out.below b1).below (below_box W1 (.cells #[.string (bs (peek0 l)), .int .i64 (atOf E l)] 96)))
  have P2 := hide (Pair.new W1 96 (a := .string (bs (peek0 l))) (b := .int .i64 (atOf E l)))
  have HB2 := hide ((below_step HB.out b1).alloc (Nat.le_trans HB.out.size b1.size) (.cells #[.string (bs (peek0 l)), .int .i64 (atOf E l)] 96))
  have hne : W1.heap.size ≠ a := by have := b1.size; have := HB.out.size; omega
  have hne2 : w.heap.size ≠ a := by omega
  have hne3 : w.heap.size ≠ W1.heap.size := by have := b1.size; have := P0.out.2.2.2.2; omega
  have hBw : B <= w.heap.size := hB
  clear hB b1 H0 P0 HB
  go_upto_region 2 with fail
  show Code.wp _ _ _ _ (W1.alloc (.cells #[.string (bs (peek0 l)), .int .i64 (atOf E l)] 96))
  generalize hW2 : W1.alloc (.cells #[.string (bs (peek0 l)), .int .i64 (atOf E l)] 96) = W2 at *
  generalize W1.heap.size = g at *
  clear hW2
  obtain ⟨_, v, c0, c1, c2, c3, f0, f1, f2, f3, hv⟩ := H1.out.cells
  clear hv c0 c2 c3 f0 f2 f3
  obtain ⟨p0, p1, p2, p3, p4⟩ := P1.out
  obtain ⟨q0, q1, q2, q3, q4⟩ := P2.out
  have HX := hide (fun hne : l ≠ [] => H1.out.next hne)
  have hj : L.length - l.length <= 131072 := by omega
  generalize L.length - l.length = j at *
  go_wp2_with fail
  refine bodyPost_ret (v := .agg #[.string (bs (peek0 l)), .int .i64 (atOf E l)]) (by simp [results, Tryz.results112, go_sem, p0, p1]) rfl ⟨rfl, ?_, fun hn => ?_⟩
  . exact (((Kp.of_belowW HB2.out (Nat.le_refl _)).setCell (.inl ⟨rfl, Nat.one_ne_zero⟩) H1.out.not80 _).setCell (.inr ⟨Nat.le_refl _, hne2⟩) (.inl (Nat.le_refl _)) _).setCell (.inr ⟨Nat.le_refl _, hne2⟩) (.inl (Nat.le_refl _)) _
  . refine (HX.out hn).keep (by simp [World.setCell]) fun k hk => ?_
    rw [Below.heap_setCell _ _ _ _ (by simp; omega), Below.heap_setCell _ _ _ _ (by simp; omega)]
end Go.Proofs.YtahhbckccdigoaaGreatDoor
