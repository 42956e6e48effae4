/- Contracts of elder functions that layer 6 calls, carried over to this dump. Contracts of elder functions that layer 6 calls, carried over to this dump. The words' own functions (numbers, names, shapes, operations), and what a reader of words answers. The type that a letter tells: typeOf, of two types or of three. An instruction in memory; a value, and a label, is read into it. Words that stand for themselves, names, numbers and letters of shapes, and what becomes of them in an instruction. Names; values and pairs, as long as there are. Values, and pairs of a label and a value, as long as there are. The ways to read the operands of each operation. Each way, by its number; the ways of an operation, one behind the other. -/
import Derived.Test.YtmiplohoclckcaaGreatLtAA
import Derived.Laws.BitsLemmas
import Derived.Laws.BitsAllLaws
import Derived.RowKit
import Derived.Test.YtmiplohoclckcaaGreatProg
import Derived.WalkKit
import Derived.WalkSpells
import Derived.WalkSmall
import Derived.WalkLawsBesides
import Derived.KernelRfl
import Derived.Below
import Derived.Deep.QuietTactic
import Derived.BigQuiet
import Derived.RegionTactic
import Derived.BigRegion
import Derived.Lib.SmallJoins
import Derived.Deep.Cut
import Derived.Laws.AppendOwn
import Derived.OwnWalk
import Derived.Lib.OthersKept
import Derived.Deep.RegionHeld3
import Derived.Deep.AppendLies
import Derived.Deep.DrawnRows
import Derived.Deep.RegionLaw
import Derived.Deep.RegionWith
import Derived.Laws.MakeOwn
import Derived.Laws.CopyOwn
namespace Go.Proofs.YtmiplohoclckcaaGreat.L3
open Go
open Go Go.RowKit
def pw (k : Nat) : Int := ((2 ^ k : Nat) : Int)
def bit (m k : Nat) : Bool := m.testBit k
def letter (m k : Nat) : UInt8 := if bit m k then 112 else 105
def letters (m n : Nat) : List UInt8 := (List.range n).map (letter m)
def isL (c : UInt8) : Bool := c == 105 || c == 112
def allL (l : List UInt8) : Bool := l.all isL
def mask (l : List UInt8) : Nat → Nat
  | 0 => 0
  | k + 1 => mask l k + if l[k]? = some 112 then 2 ^ k else 0
/-- May a shape of these slots and this mask be? -/
def may (s m : Int) : Bool := decide (0 ≤ s ∧ s ≤ 16 ∧ 0 ≤ m ∧ m < pw s.toNat)
theorem mask_lt (l : List UInt8) : ∀ k, mask l k < 2 ^ k
  | 0 => by simp [mask]
  | k + 1 => by
    have := mask_lt l k
    rw [mask, Nat.pow_succ]; split <;> omega
theorem hide {p : Prop} (h : p) : Hid p := h
theorem below_box (w : World) (o : Obj) : Below w.heap.size w (w.alloc o) := (Below.refl _ _).alloc (Nat.le_refl _) _
theorem size_len (s : ByteArray) : s.data.toList.length = s.size := by simp
theorem empty_true (s : ByteArray) (h : s.size = 0) : s.toList.isEmpty = true := by
  have : s.data.toList = [] := List.length_eq_zero_iff.1 (by rw [size_len]; exact h)
  rw [ByteArray.toList_eq, this]; rfl
theorem empty_false (s : ByteArray) (h : 0 < s.size) : s.toList.isEmpty = false := by
  rw [ByteArray.toList_eq]
  cases e : s.data.toList with
  | nil => have := size_len s; rw [e] at this; simp at this; omega
  | cons => rfl
theorem point_true (s : ByteArray) (h : s.data.toList = [46]) : (s.toList == [46]) = true := by
  rw [ByteArray.toList_eq, h]; rfl
theorem point_false (s : ByteArray) (h : s.data.toList ≠ [46]) : (s.toList == [46]) = false := by
  rw [ByteArray.toList_eq]; simpa using h
theorem at_list (s : ByteArray) (k : Nat) (h : k < s.size) : s.data.toList[k]? = some s[k] := by
  rw [List.getElem?_eq_getElem (by simpa using h)]; rfl
theorem toNat_eq_iff (c : UInt8) (k : Nat) (hk : k < 256) : c.toNat = k ↔ c = UInt8.ofNat k := by
  constructor
  · intro h; apply UInt8.toNat_inj.1; rw [h]; simp [UInt8.toNat_ofNat']; omega
  · rintro rfl; simp [UInt8.toNat_ofNat']; omega
theorem mask_i (s : ByteArray) (k : Nat) (h : k < s.size) (hc : ¬ (s[k].toNat : Int) = 112) : mask s.data.toList (k + 1) = mask s.data.toList k := by
  rw [mask, at_list s k h, if_neg, Nat.add_zero]
  intro e
  have : s[k] = 112 := Option.some.inj e
  exact hc (by rw [this]; rfl)
theorem mask_p (s : ByteArray) (k : Nat) (h : k < s.size) (hc : (s[k].toNat : Int) = 112) : mask s.data.toList (k + 1) = mask s.data.toList k + 2 ^ k := by
  rw [mask, at_list s k h, if_pos]
  rw [(toNat_eq_iff s[k] 112 (by decide)).1 (by omega)]; rfl
/-- The first letters are letters of a shape. -/
def Upto (s : ByteArray) (k : Nat) : Prop := ∀ j, j < k → ∀ h : j < s.size, isL s[j] = true
theorem upto_zero (s : ByteArray) : Upto s 0 := fun j h => by omega
theorem upto_succ {s : ByteArray} {k : Nat} (h : Upto s k) (hk : k < s.size) (hc : (s[k].toNat : Int) = 105 ∨ (s[k].toNat : Int) = 112) : Upto s (k + 1) := by
  intro j hj hs
  by_cases e : j < k
  · exact h j e hs
  · have : j = k := by omega
    subst this
    rcases hc with hc | hc
    · rw [(toNat_eq_iff s[j] 105 (by decide)).1 (by omega)]; rfl
    · rw [(toNat_eq_iff s[j] 112 (by decide)).1 (by omega)]; rfl
theorem upto_all {s : ByteArray} (h : Upto s s.size) : allL s.data.toList = true := by
  unfold allL
  rw [List.all_eq_true]
  intro c hc
  obtain ⟨j, hj, rfl⟩ := List.mem_iff_getElem.1 hc
  have hj' : j < s.size := by simpa using hj
  exact h j hj' hj'
theorem all_no {s : ByteArray} {k : Nat} (hk : k < s.size) (h1 : ¬ (s[k].toNat : Int) = 105) (h2 : ¬ (s[k].toNat : Int) = 112) : allL s.data.toList = false := by
  rw [Bool.eq_false_iff]
  intro h
  have := List.all_eq_true.1 h s[k] (List.mem_of_getElem? (at_list s k hk))
  unfold isL at this
  simp only [Bool.or_eq_true, beq_iff_eq] at this
  rcases this with e | e
  · exact h1 (by rw [e]; rfl)
  · exact h2 (by rw [e]; rfl)
/-- What letters, neither a point nor too few nor too many, are read as. -/
def readL (l : List UInt8) : Value :=
  if allL l then .tuple #[.agg #[.int .i64 l.length, .int .i64 (mask l l.length)], .int .i64 0] else .tuple #[.agg #[.int .i64 0, .int .i64 0], .int .i64 16]
theorem readL_yes {s : ByteArray} (h : Upto s s.size) : readL s.data.toList = .tuple #[.agg #[.int .i64 s.size, .int .i64 (mask s.data.toList s.size)], .int .i64 0] := by
  unfold readL; rw [upto_all h, size_len]; rfl
theorem readL_no {s : ByteArray} {k : Nat} (hk : k < s.size) (h1 : ¬ (s[k].toNat : Int) = 105) (h2 : ¬ (s[k].toNat : Int) = 112) : readL s.data.toList = .tuple #[.agg #[.int .i64 0, .int .i64 0], .int .i64 16] := by
  unfold readL; rw [all_no hk h1 h2]; rfl
/-- What a text is read as. -/
def readS (s : ByteArray) : Value :=
  if s.data.toList = [46] then .tuple #[.agg #[.int .i64 0, .int .i64 0], .int .i64 0]
  else if s.size = 0 ∨ 16 < s.size then .tuple #[.agg #[.int .i64 0, .int .i64 0], .int .i64 16]
  else readL s.data.toList
end Go.Proofs.YtmiplohoclckcaaGreat.L3
namespace Go.Proofs.YtmiplohoclckcaaGreat.L5
set_option maxRecDepth 8000
open Go
open Go Go.RowKit
def tab : List (List UInt8 × Int × Int × Int × Int) := [
  ([], 0, 0, 0, 0),
  ([99, 111, 110, 115, 116], 0, 0, 1, 32),
  ([97, 100, 100], 1, 1, 1, 32),
  ([115, 117, 98], 1, 1, 1, 32),
  ([109, 117, 108], 1, 1, 1, 32),
  ([100, 105, 118], 1, 1, 1, 1),
  ([108, 116], 1, 1, 1, 32),
  ([101, 113], 1, 1, 1, 32),
  ([110, 105, 108], 0, 0, 2, 32),
  ([115, 97, 109, 101], 2, 2, 1, 32),
  ([110, 101, 119], 0, 0, 2, 0),
  ([108, 111, 97, 100, 46, 105], 2, 0, 1, 3),
  ([108, 111, 97, 100, 46, 112], 2, 0, 2, 3),
  ([115, 116, 111, 114, 101, 46, 105], 2, 1, 0, 5),
  ([115, 116, 111, 114, 101, 46, 112], 2, 2, 0, 5),
  ([115, 108, 111, 116], 2, 0, 3, 1),
  ([103, 101, 116, 46, 105], 3, 0, 1, 3),
  ([103, 101, 116, 46, 112], 3, 0, 2, 3),
  ([112, 117, 116, 46, 105], 3, 1, 0, 5),
  ([112, 117, 116, 46, 112], 3, 2, 0, 5),
  ([112, 104, 105], 0, 0, 0, 128),
  ([99, 97, 108, 108], 0, 0, 0, 199),
  ([111, 117, 116], 1, 0, 0, 16),
  ([112, 111, 108, 108], 0, 0, 0, 80),
  ([114, 101, 108, 111, 99], 0, 0, 0, 128),
  ([109, 97, 114, 107], 2, 0, 0, 16),
  ([98, 114], 0, 0, 0, 8),
  ([105, 102], 1, 0, 0, 8),
  ([114, 101, 116], 0, 0, 0, 8),
  ([102, 97, 105, 108], 0, 0, 0, 9)]
/-- Which row is an operation's: its number, or 0 where there is none. -/
def num (op : Int) : Nat := if 1 ≤ op ∧ op ≤ 29 then op.toNat else 0
def rowAt (k : Nat) : List UInt8 × Int × Int × Int × Int := tab.getD k ([], 0, 0, 0, 0)
def letters (k : Nat) : List UInt8 := (rowAt k).1
def tk0 (k : Nat) : Int := (rowAt k).2.1
def tk1 (k : Nat) : Int := (rowAt k).2.2.1
def mk (k : Nat) : Int := (rowAt k).2.2.2.1
def ds (k : Nat) : Int := (rowAt k).2.2.2.2
def word (k : Nat) : ByteArray := ⟨(letters k).toArray⟩
theorem num_le (op : Int) : num op ≤ 29 := by unfold num; split <;> omega
theorem num_out {op : Int} (h : ¬ (1 ≤ op ∧ op ≤ 29)) : num op = 0 := by unfold num; rw [if_neg h]
/-- Does a row do one of some things beside? -/
def beside (k : Nat) (things : Int) : Bool := bits BinOp.and .i64 (ds k) things != 0
/-- A list of operations that is just those whose row does one of some things beside, asked for every number. -/
theorem beside_list {l : List Int} {things : Int} (h : ∀ k, k < 30 → l.contains ((k : Nat) : Int) = beside k things) (hl : l.all (fun x => decide (1 ≤ x) && decide (x ≤ 29)) = true) (op : Int) : l.contains op = beside (num op) things := by
  by_cases ho : 1 ≤ op ∧ op ≤ 29
  · have e : op = ((op.toNat : Nat) : Int) := by omega
    have := h op.toNat (by omega)
    rw [← e] at this
    rw [this, show num op = op.toNat from if_pos ho]
  · have h0 := h 0 (by omega)
    rw [num_out ho, ← h0]
    have no : ∀ x : Int, ¬ (1 ≤ x ∧ x ≤ 29) → l.contains x = false := by
      intro x hx
      rw [Bool.eq_false_iff]
      intro hc
      have := List.all_eq_true.1 hl x (by simpa using hc)
      simp only [Bool.and_eq_true, decide_eq_true_eq] at this
      exact hx this
    rw [no op ho, no ((0 : Nat) : Int) (by omega)]
def typedL : List Int := [20, 21, 24]
theorem typed_l (op : Int) : typedL.contains op = beside (num op) 128 := beside_list (by decide +kernel) (by decide) op
/-- A type as a letter. -/
def letter (t : Int) : ByteArray := if t = 1 then ⟨#[105]⟩ else if t = 2 then ⟨#[112]⟩ else if t = 3 then ⟨#[100]⟩ else ⟨#[110]⟩
/-- May an operation be of a type? -/
def may (op t : Int) : Bool :=
  if op = 20 then decide (t = 1 ∨ t = 2 ∨ t = 3) else if op = 21 then decide (t = 0 ∨ t = 1 ∨ t = 2) else if op = 24 then decide (t = 2 ∨ t = 3) else decide (t = 0)
/-- The word of an instruction. -/
def iword (op t : Int) : ByteArray := if beside (num op) 128 then word (num op) ++ ⟨#[46]⟩ ++ letter t else word (num op)
/-- What an instruction makes. -/
def imakes (op t : Int) : Int := if beside (num op) 128 then t else mk (num op)
/-- The types that an operation takes, those that are none left out. -/
def takes (k : Nat) : List Int := [tk0 k, tk1 k].filter (fun x => x != 0)
/-- The pairs of an operation and a type, one behind the other: is it this one's word? -/
def hit (s : ByteArray) (i : Nat) : Bool := may ((i / 4 + 1 : Nat) : Int) ((i % 4 : Nat) : Int) && (iword ((i / 4 + 1 : Nat) : Int) ((i % 4 : Nat) : Int)).toList == s.toList
def findN (s : ByteArray) : Nat → Nat → Int × Int
  | 0, _ => (0, 0)
  | n + 1, i => if hit s i then (((i / 4 + 1 : Nat) : Int), ((i % 4 : Nat) : Int)) else findN s n (i + 1)
def find (s : ByteArray) : Int × Int := findN s 116 0
theorem hide {p : Prop} (h : p) : Hid p := h
theorem ret_bool {x y : Bool} (h : x = y) : Ending.returned (.bool x) = .returned (.bool y) := by rw [h]
theorem ret_int {x y : Int} (h : x = y) : Ending.returned (.int .i64 x) = .returned (.int .i64 y) := by rw [h]
theorem ret_str {x y : ByteArray} (h : x = y) : Ending.returned (.string x) = .returned (.string y) := by rw [h]
theorem below_box (w : World) (o : Obj) : Below w.heap.size w (w.alloc o) := (Below.refl _ _).alloc (Nat.le_refl _) _
theorem below_step {a b c : World} (h : Below a.heap.size a b) (k : Below b.heap.size b c) : Below a.heap.size a c := h.trans (k.mono h.size)
theorem typed_any (op : Int) (w : World) : Calls Tryz.prog 99 #[.int .i64 op] w fun e w' => e = .returned (.bool (beside (num op) 128)) ∧ w' = w := by
  have HL := hide (typed_l op)
  go_enter Tryz.func99, Tryz.ntmps99
  go_wp2
  all_goals (go_ret; refine ⟨ret_bool ?_, rfl⟩; rw [← HL.out, Bool.eq_iff_iff]; simp [typedL]; try omega)
def nth (l : List Int) (i : Nat) : Int := l.getD i 0
/-- A slice of numbers reads as a list. -/
def SlI (w : World) (ao : Option Addr) (l : List Int) : Prop :=
  l = [] ∨ ∃ b, ao = some ⟨b, 0, none⟩ ∧ b < w.heap.size ∧ ∀ i, i < l.length → w.cell? ⟨b, i, none⟩ = some (.int .i64 (nth l i))
/-- A block reads as these values. -/
def Box (w : World) (g : Nat) (l : List Value) : Prop := g < w.heap.size ∧ ∀ i v, l[i]? = some v → w.cell? ⟨g, i, none⟩ = some v
theorem Box.new (w : World) (l : List Value) (t : TypeId) : Box (w.alloc (.cells l.toArray t)) w.heap.size l :=
  ⟨by simp, fun i v h => by rw [Joins.cell_alloc_mark_at _ _ _ _ _ _ rfl]; simpa using h⟩
theorem Box.below {w w1 : World} {g : Nat} {l : List Value} (h : Box w g l) (hb : Below w.heap.size w w1) : Box w1 g l :=
  ⟨Nat.lt_of_lt_of_le h.1 hb.size, fun i v hi => (hb.cell (p := ⟨g, i, none⟩) h.1).trans (h.2 i v hi)⟩
theorem below_drew1 (w : World) : Below w.heap.size w w.drew := (Below.refl _ _).drew
open Classical in
/-- Any world in which all that there was in W is as it was: x itself, if it is one; else W behind a draw. -/
noncomputable def grewTo (W x : World) : World := if Below W.heap.size W x then x else W.drew
theorem grewTo_below (W x : World) : Below W.heap.size W (grewTo W x) := by
  unfold grewTo; split
  · assumption
  · exact below_drew1 W
theorem grewTo_of {W w' : World} (h : Below W.heap.size W w') : w' = grewTo W w' := by unfold grewTo; rw [if_pos h]
theorem region_grew {P : Program} {id : Nat} {Q : Exit → Act → World → Prop} {a : Act} {W : World} {l : List Oper} (hm : P.follows .mixedOrders = true) (hB : Region.lexB .any l.toArray = true)
    (h : wpQuiet P l.toArray (fun w' => ∃ x : World, w' = grewTo W x) (fun a' => ∀ w', (∃ x : World, w' = grewTo W x) → Q .normal a' w') l a) : (Code.region id l.toArray true).wp P Q a W :=
  wp_region_quiet (C := fun w' => ∃ x : World, w' = grewTo W x) hm hB ⟨W.drew, grewTo_of (below_drew1 W)⟩ (by simpa using h)
theorem calls_grew {P : Program} {f : FuncId} {args : Array Value} {W : World} {x : World} {v : Value}
    (h : Calls P f args (grewTo W x) fun e w' => e = .returned v ∧ Below (grewTo W x).heap.size (grewTo W x) w') :
    Calls P f args (grewTo W x) fun e w'' => e = .returned v ∧ ∃ y : World, w'' = grewTo W y :=
  h.mono fun _ _ ⟨he, hb⟩ => ⟨he, _, grewTo_of (below_step (grewTo_below W x) hb)⟩
theorem calls_grew_same {P : Program} {f : FuncId} {args : Array Value} {W : World} {x : World} {v : Value}
    (h : Calls P f args (grewTo W x) fun e w' => e = .returned v ∧ w' = grewTo W x) :
    Calls P f args (grewTo W x) fun e w'' => e = .returned v ∧ ∃ y : World, w'' = grewTo W y :=
  h.mono fun _ _ ⟨he, hb⟩ => ⟨he, x, hb⟩
theorem grew_box {W : World} {g : Nat} {l : List Value} (h : Box W g l) (x : World) : Box (grewTo W x) g l := h.below (grewTo_below W x)
theorem iword_typed {op t : Int} (h : beside (num op) 128 = true) : word (num op) ++ ⟨#[46]⟩ ++ letter t = iword op t := by unfold iword; rw [if_pos h]
theorem iword_plain {op t : Int} (h : beside (num op) 128 = false) : word (num op) = iword op t := by unfold iword; rw [if_neg (by simp [h])]
theorem imakes_typed {op t : Int} (h : beside (num op) 128 = true) : t = imakes op t := by unfold imakes; rw [if_pos h]
theorem imakes_plain {op t : Int} (h : beside (num op) 128 = false) : mk (num op) = imakes op t := by unfold imakes; rw [if_neg (by simp [h])]
theorem word_size (op : Int) : (word (num op)).size ≤ 7 := by
  have : ∀ k, k ≤ 29 → (word k).size ≤ 7 := by decide
  exact this _ (num_le op)
theorem letter_size (t : Int) : (letter t).size = 1 := by unfold letter; split <;> (try split) <;> (try split) <;> rfl
/-- The numbers of the operations that make something of a type of their own. -/
theorem mk_else {op : Int} (h : [1, 2, 3, 4, 5, 6, 7, 9, 11, 16, 8, 10, 12, 17, 15].contains op = false) : mk (num op) = 0 := by
  by_cases ho : 1 ≤ op ∧ op ≤ 29
  · have e : op = ((op.toNat : Nat) : Int) := by omega
    have hk : ∀ k, k ≤ 29 → [1, 2, 3, 4, 5, 6, 7, 9, 11, 16, 8, 10, 12, 17, 15].contains ((k : Nat) : Int) = false → mk k = 0 := by decide +kernel
    rw [show num op = op.toNat from if_pos ho]
    exact hk op.toNat (by omega) (by rw [← e]; exact h)
  · rw [num_out ho]; rfl
theorem mk_at {op : Int} (k v : Int) (h : (op == k) = true) (hv : mk (num k) = v) : v = mk (num op) := by
  rw [← hv, show op = k by simpa using h]
theorem mk_not {op : Int} (h1 : (op == 1) = false) (h2 : (op == 2) = false) (h3 : (op == 3) = false) (h4 : (op == 4) = false) (h5 : (op == 5) = false) (h6 : (op == 6) = false) (h7 : (op == 7) = false) (h9 : (op == 9) = false) (h11 : (op == 11) = false) (h16 : (op == 16) = false)
    (h8 : (op == 8) = false) (h10 : (op == 10) = false) (h12 : (op == 12) = false) (h17 : (op == 17) = false) (h15 : (op == 15) = false) : 0 = mk (num op) := by
  refine (mk_else ?_).symm
  simp only [List.contains_cons, List.contains_nil, h1, h2, h3, h4, h5, h6, h7, h8, h9, h10, h11, h12, h15, h16, h17]
  rfl
theorem refMakes_any (op t : Int) (a b c d e f : Value) (w : World) : Calls Tryz.prog 94 #[.agg #[.int .i64 op, a, b, .int .i64 t, c, d, e, f]] w fun e w' => e = .returned (.int .i64 (imakes op t)) ∧ Below w.heap.size w w' := by
  have Hb := hide (below_box w (.cells #[.int .i64 op, a, b, .int .i64 t, c, d, e, f] 67))
  cases h : beside (num op) 128
  · have HM := hide (imakes_plain (t := t) h)
    replace h := hide h
    go_enter Tryz.func94, Tryz.ntmps94
    go_wp2_with fail
    refine (typed_any op _).mono ?_; rintro e w1 ⟨rfl, rfl⟩
    rw [h.out]
    go_wp2_with fail
    all_goals (go_ret; refine ⟨ret_int ?_, Hb.out⟩; rw [← HM.out])
    all_goals first
      | exact mk_at 1 1 (by assumption) rfl
      | exact mk_at 2 1 (by assumption) rfl
      | exact mk_at 3 1 (by assumption) rfl
      | exact mk_at 4 1 (by assumption) rfl
      | exact mk_at 5 1 (by assumption) rfl
      | exact mk_at 6 1 (by assumption) rfl
      | exact mk_at 7 1 (by assumption) rfl
      | exact mk_at 9 1 (by assumption) rfl
      | exact mk_at 11 1 (by assumption) rfl
      | exact mk_at 16 1 (by assumption) rfl
      | exact mk_at 8 2 (by assumption) rfl
      | exact mk_at 10 2 (by assumption) rfl
      | exact mk_at 12 2 (by assumption) rfl
      | exact mk_at 17 2 (by assumption) rfl
      | exact mk_at 15 3 (by assumption) rfl
      | exact mk_not (by assumption) (by assumption) (by assumption) (by assumption) (by assumption) (by assumption) (by assumption) (by assumption) (by assumption) (by assumption) (by assumption) (by assumption) (by assumption) (by assumption) (by assumption)
  · have HM := hide (imakes_typed (t := t) h)
    replace h := hide h
    go_enter Tryz.func94, Tryz.ntmps94
    go_wp2_with fail
    refine (typed_any op _).mono ?_; rintro e w1 ⟨rfl, rfl⟩
    rw [h.out]
    go_wp2_with fail
    go_ret
    exact ⟨ret_int HM.out, Hb.out⟩
/-- Those of the first types that are some. -/
def part (k : Nat) : Nat → List Int
  | 0 => []
  | 1 => [tk0 k].filter (fun x => x != 0)
  | _ => takes k
/-- A call that answers a slice of these numbers. -/
def Lists (l : List Int) (w : World) (e : Ending) (w' : World) : Prop := ∃ ao cap, e = .returned (.slice ao l.length cap) ∧ SlI w' ao l ∧ Below w.heap.size w w'
/-- What is still to be gone through from here on tells what the whole tells. -/
def Rest (s : ByteArray) (k j : Nat) : Prop := findN s (116 - (4 * (k - 1) + j)) (4 * (k - 1) + j) = find s
theorem rest_start (s : ByteArray) : Rest s 1 0 := rfl
theorem rest_line {s : ByteArray} {k : Nat} (h : Rest s k 4) (hk : 1 ≤ k) : Rest s (k + 1) 0 := by
  unfold Rest at *
  rw [show 4 * (k + 1 - 1) + 0 = 4 * (k - 1) + 4 by omega]; exact h
theorem hit_at (s : ByteArray) {k j : Nat} (h1 : 1 ≤ k) (hj : j < 4) : hit s (4 * (k - 1) + j) = (may (k : Int) (j : Int) && (iword (k : Int) (j : Int)).toList == s.toList) := by
  unfold hit
  rw [show (4 * (k - 1) + j) / 4 + 1 = k by omega, show (4 * (k - 1) + j) % 4 = j by omega]
theorem rest_step {s : ByteArray} {k j : Nat} (h : Rest s k j) (h1 : 1 ≤ k) (h2 : k ≤ 29) (hj : j < 4) :
    find s = if (may (k : Int) (j : Int) && (iword (k : Int) (j : Int)).toList == s.toList) then ((k : Int), (j : Int)) else findN s (116 - (4 * (k - 1) + (j + 1))) (4 * (k - 1) + (j + 1)) := by
  unfold Rest at h
  rw [← h, show 116 - (4 * (k - 1) + j) = (116 - (4 * (k - 1) + (j + 1))) + 1 by omega, findN, hit_at s h1 hj, show (4 * (k - 1) + j) / 4 + 1 = k by omega, show (4 * (k - 1) + j) % 4 = j by omega]
  rfl
theorem rest_miss {s : ByteArray} {k j : Nat} (h : Rest s k j) (h1 : 1 ≤ k) (h2 : k ≤ 29) (hj : j < 4) (hm : (may (k : Int) (j : Int) && (iword (k : Int) (j : Int)).toList == s.toList) = false) : Rest s k (j + 1) := by
  have := rest_step h h1 h2 hj
  rw [hm] at this
  exact this.symm
theorem rest_hit {s : ByteArray} {k j : Nat} (h : Rest s k j) (h1 : 1 ≤ k) (h2 : k ≤ 29) (hj : j < 4) (hm : may (k : Int) (j : Int) = true) (he : ((iword (k : Int) (j : Int)).toList == s.toList) = true) : find s = ((k : Int), (j : Int)) := by
  have := rest_step h h1 h2 hj
  rw [hm, he] at this
  exact this
theorem rest_end {s : ByteArray} {k : Nat} (h : Rest s k 0) (hk : k = 30) : find s = (0, 0) := by
  subst hk
  exact h.symm
theorem ret_pair {a b c d : Int} {p : Int × Int} (h : p = (c, d)) (ha : a = c) (hb : b = d) : Ending.returned (.tuple #[.int .i64 a, .int .i64 b]) = .returned (.tuple #[.int .i64 p.1, .int .i64 p.2]) := by
  subst h ha hb; rfl
theorem find_empty {s : ByteArray} (h : s.size = 0) : find s = (0, 0) := by
  have : s = ⟨#[]⟩ := by
    cases s with
    | mk d =>
      have : d = #[] := Array.eq_empty_of_size_eq_zero h
      rw [this]
  rw [this]
  decide +kernel
end Go.Proofs.YtmiplohoclckcaaGreat.L5
namespace Go.Proofs.YtmiplohoclckcaaGreat
open Go Go.RowKit
open G (Tok Er Ins Fun peek0 peek1 atOf)
def numF (s : List UInt8) : Int × Int := L1.readNum s
def idxF (s : List UInt8) (most : Int) : Option Int := if (L1.indexNum s most).2 = 0 then some (L1.indexNum s most).1 else none
def namF (s : List UInt8) : Bool := L2.nameB s
def shpF (s : List UInt8) : Int := match L3.readS (bs s) with
  | .tuple #[_, .int .i64 c] => c
  | _ => 0
def tksF (op : Int) : Nat := (L5.takes (L5.num op)).length
def fndF (s : List UInt8) : Int × Int := L5.find (bs s)
def mksF (op t : Int) : Int := L5.imakes op t
def prtF (k : Nat) (s : List UInt8) : Bool := decide (G.mark idxF 98 255 s = some (k : Int))
theorem nam_nil : namF [] = false := rfl
theorem num_nil : (numF []).2 ≠ 0 := by decide
theorem shp_nil : shpF [] ≠ 0 := by decide
theorem fnd_nil : (fndF []).1 = 0 := congrArg Prod.fst (L5.find_empty (s := bs []) (by rw [bs_size]; rfl))
/-- What becomes of a word by itself. -/
def Of (r : Option Int) (c p : Int) (w : World) (e : Ending) (w' : World) : Prop :=
  Below w.heap.size w w' ∧ ((∃ x, r = some x ∧ e = .returned (.int .i64 x)) ∨ (r = none ∧ e = thrown c p))
end Go.Proofs.YtmiplohoclckcaaGreat
namespace Go.Proofs.YtmiplohoclckcaaGreat
open Go Go.RowKit
open G (Tok Er Ins Fun peek0 peek1 atOf)
theorem below_drewN {B : Nat} {a w : World} (h : Below B a w) (n : Nat) : Below B a (w.drewN n) := ⟨h.1, h.2, h.3, h.4, h.5⟩
/-- Is a type told by a text? -/
def tells (s : List UInt8) (t : Int) : Bool := (L5.letter t).toList == s
end Go.Proofs.YtmiplohoclckcaaGreat
namespace Go.Proofs.YtmiplohoclckcaaGreat
open Go Go.RowKit
open G (Tok Er Ins Fun peek0 peek1 atOf)
theorem Tryz.info3 : (Tryz.prog.info? 3).map (fun i => (i.zero, i.size, i.bytes)) = some (some (.int .i64 0), 1, 8) := by kernel_rfl
abbrev ints (l : List Int) : List Value := l.map (Value.int .i64)
/-- The cells of an instruction. -/
def insCells (x : Ins) (va vt : Value) : List Value := [.int .i64 x.1, .int .i64 x.2.1, .int .i64 x.2.2.1, .int .i64 x.2.2.2.1, va, vt, .string (bs x.2.2.2.2.2.2.1), .int .i64 x.2.2.2.2.2.2.2]
/-- The instruction x stands at block c, its lists at blocks from B on. -/
def InsAt (B c : Nat) (x : Ins) (w : World) : Prop :=
  ∃ va vt, w.heap[c]? = some (.cells (insCells x va vt).toArray 67 (0, 0)) ∧ w.ownsRow B 3 1 va x.2.2.2.2.1.length (ints x.2.2.2.2.1) ∧ w.ownsRow B 3 1 vt x.2.2.2.2.2.1.length (ints x.2.2.2.2.2.1) ∧
    (va.ownBlock = none ∨ va.ownBlock ≠ vt.ownBlock) ∧ B ≤ c
theorem InsAt.keep {B c : Nat} {x : Ins} {w w' : World} (h : InsAt B c x w) (hb : ∀ k, B ≤ k → k < w.heap.size → w'.heap[k]? = w.heap[k]?) : InsAt B c x w' := by
  obtain ⟨va, vt, h1, h2, h3, h4, h5⟩ := h
  have key : ∀ {v : Value} {n : Nat} {xs : List Value}, w.ownsRow B 3 1 v n xs → w'.ownsRow B 3 1 v n xs := by
    intro v n xs ho
    refine ⟨ho.1, ?_⟩
    rcases ho.2 with hn | ⟨g, cap, cur, hv2, hbb, hg, rest⟩
    · exact .inl hn
    · exact .inr ⟨g, cap, cur, hv2, hbb, (hb g hbb (Array.getElem?_eq_some_iff.1 hg).1).trans hg, rest⟩
  exact ⟨va, vt, (hb c h5 (Array.getElem?_eq_some_iff.1 h1).1).trans h1, key h2, key h3, h4, h5⟩
theorem InsAt.step {B c : Nat} {x : Ins} {w w' : World} (h : InsAt B c x w) (hk : Below w.heap.size w w') : InsAt B c x w' := h.keep fun k _ h2 => hk.block k h2
theorem InsAt.lt {B c : Nat} {x : Ins} {w : World} (h : InsAt B c x w) : c < w.heap.size ∧ B ≤ c := by
  obtain ⟨va, vt, h1, h2, h3, h4, h5⟩ := h
  exact ⟨(Array.getElem?_eq_some_iff.1 h1).1, h5⟩
def addArg (x : Ins) (v : Int) : Ins := (x.1, x.2.1, x.2.2.1, x.2.2.2.1, x.2.2.2.2.1 ++ [v], x.2.2.2.2.2.1, x.2.2.2.2.2.2.1, x.2.2.2.2.2.2.2)
def addTo (x : Ins) (v : Int) : Ins := (x.1, x.2.1, x.2.2.1, x.2.2.2.1, x.2.2.2.2.1, x.2.2.2.2.2.1 ++ [v], x.2.2.2.2.2.2.1, x.2.2.2.2.2.2.2)
def setN (x : Ins) (v : Int) : Ins := (x.1, x.2.1, v, x.2.2.2.1, x.2.2.2.2.1, x.2.2.2.2.2.1, x.2.2.2.2.2.2.1, x.2.2.2.2.2.2.2)
def setName (x : Ins) (s : List UInt8) : Ins := (x.1, x.2.1, x.2.2.1, x.2.2.2.1, x.2.2.2.2.1, x.2.2.2.2.2.1, s, x.2.2.2.2.2.2.2)
/-- A word is read, and something becomes of it and of the instruction. -/
def byWord {α : Type} (x : Ins) (f : Ins → α → Ins) (r : Except Er (α × List Tok)) : Except Er (Ins × List Tok) := G.andThen r fun v l => .ok (f x v, l)
/-- A cell that may be written. -/
def Cel (w : World) (c i : Nat) (v : Value) : Prop := w.cell? ⟨c, i, none⟩ = some v ∧ w.frozen? ⟨c, i, none⟩ = false
theorem Cel.below {B : Nat} {w w' : World} (k : Below B w w') {c i : Nat} {v : Value} (hp : c < B) (h1 : w.cell? ⟨c, i, none⟩ = some v) (h2 : w.frozen? ⟨c, i, none⟩ = false) : w'.cell? ⟨c, i, none⟩ = some v ∧ w'.frozen? ⟨c, i, none⟩ = false :=
  ⟨(k.cell (p := ⟨c, i, none⟩) hp).trans h1, (k.frozen (p := ⟨c, i, none⟩) hp).trans h2⟩
theorem Cel.grown {w w' : World} {row : Option Nat} (k : w.grownBy w' row) {c i : Nat} {v : Value} (hp : c < w.heap.size) (hr : row ≠ some c) (h1 : w.cell? ⟨c, i, none⟩ = some v) (h2 : w.frozen? ⟨c, i, none⟩ = false) : w'.cell? ⟨c, i, none⟩ = some v ∧ w'.frozen? ⟨c, i, none⟩ = false :=
  ⟨(k.cell_far ⟨c, i, none⟩ hp (Ne.symm hr)).trans h1, (k.frozen_far ⟨c, i, none⟩ hp (Ne.symm hr)).trans h2⟩
theorem one_cell {w1 : World} {a : Value} {t : TypeId} : ∀ j u, [a][j]? = some u → (w1.alloc (.cells #[a] t)).cell? ((⟨w1.heap.size, 0, none⟩ : Addr).add j) = some u := by
  intro j u hj
  match j, hj with
  | 0, hj => simp at hj; subst hj; simp [Addr.add]
theorem one_one {a : Int} : ∀ u ∈ [Value.int .i64 a], u.oneCell' = true := by
  intro u hu
  simp only [List.mem_singleton] at hu
  subst hu; rfl
theorem own_setCell {w : World} {b e s n : Nat} {v : Value} {xs : List Value} (h : w.ownsRow b e s v n xs) {p : Addr} (hp : v.ownBlock ≠ some p.block) (u : Value) : (w.setCell p u).ownsRow b e s v n xs := by
  refine ⟨h.1, ?_⟩
  rcases h.2 with hn | ⟨g, cap, cur, hv2, hbb, hg, rest⟩
  · exact .inl hn
  · refine .inr ⟨g, cap, cur, hv2, hbb, ?_, rest⟩
    rw [Below.heap_setCell _ _ _ _ (fun e => hp (by rw [hv2, ← e]; rfl))]
    exact hg
theorem InsAt.arg {B c gg cap : Nat} {x : Ins} {k : Int} {va : Value} {w w3 : World} (h : InsAt B c x w) (hc : w.cell? ⟨c, 4, none⟩ = some va)
    (hown : w3.ownsRow B 3 1 (.slice (some ⟨gg, 0, none⟩) (x.2.2.2.2.1.length + 1) cap) (x.2.2.2.2.1.length + 1) (ints x.2.2.2.2.1 ++ [.int .i64 k])) (hg : w.grownBy w3 va.ownBlock) (hat : va.ownBlock = some gg ∨ gg = w.heap.size) :
    InsAt B c (addArg x k) (w3.setCell ⟨c, 4, none⟩ (.slice (some ⟨gg, 0, none⟩) (x.2.2.2.2.1.length + 1) cap)) := by
  obtain ⟨va', vt, h1, h2, h3, h4, h5⟩ := h
  have e : va' = va := by
    have : w.cell? ⟨c, 4, none⟩ = some va' := by simp [World.cell?, h1, insCells]
    rw [hc] at this; exact (Option.some.inj this).symm
  subst e
  have hcl : c < w.heap.size := (Array.getElem?_eq_some_iff.1 h1).1
  have n1 : va'.ownBlock ≠ some c := own_ne h2 h1 (by decide)
  have n2 : vt.ownBlock ≠ some c := own_ne h3 h1 (by decide)
  have h1' : w3.heap[c]? = some (.cells (insCells x va' vt).toArray 67 (0, 0)) := (hg.block c hcl (fun e => n1 e.symm)).trans h1
  have h3' : w3.ownsRow B 3 1 vt x.2.2.2.2.2.1.length (ints x.2.2.2.2.2.1) := h3.kept hg (by
    rcases h4 with h4 | h4
    · rw [h4]; cases vt.ownBlock <;> simp
    · exact .inr (Ne.symm h4))
  have n3 : (Value.slice (some ⟨gg, 0, none⟩) (x.2.2.2.2.1.length + 1) cap).ownBlock ≠ some c := own_ne hown h1' (by decide)
  refine ⟨_, vt, (heap_setCell_same w3 c 4 _ 67 _ h1').trans rfl, ?_, own_setCell h3' n2 _, ?_, h5⟩
  · have := own_setCell hown (p := ⟨c, 4, none⟩) n3 (.slice (some ⟨gg, 0, none⟩) (x.2.2.2.2.1.length + 1) cap)
    simpa [addArg] using this
  · refine .inr fun e => ?_
    have e : some gg = vt.ownBlock := e
    rcases hat with hat | hat
    · rcases h4 with h4 | h4
      · rw [h4] at hat; cases hat
      · exact h4 (hat.trans e)
    · have := (h3.lt gg e.symm).2
      omega
theorem InsAt.to {B c gg cap : Nat} {x : Ins} {k : Int} {vt : Value} {w w3 : World} (h : InsAt B c x w) (hc : w.cell? ⟨c, 5, none⟩ = some vt)
    (hown : w3.ownsRow B 3 1 (.slice (some ⟨gg, 0, none⟩) (x.2.2.2.2.2.1.length + 1) cap) (x.2.2.2.2.2.1.length + 1) (ints x.2.2.2.2.2.1 ++ [.int .i64 k])) (hg : w.grownBy w3 vt.ownBlock) (hat : vt.ownBlock = some gg ∨ gg = w.heap.size) :
    InsAt B c (addTo x k) (w3.setCell ⟨c, 5, none⟩ (.slice (some ⟨gg, 0, none⟩) (x.2.2.2.2.2.1.length + 1) cap)) := by
  obtain ⟨va, vt', h1, h2, h3, h4, h5⟩ := h
  have e : vt' = vt := by
    have : w.cell? ⟨c, 5, none⟩ = some vt' := by simp [World.cell?, h1, insCells]
    rw [hc] at this; exact (Option.some.inj this).symm
  subst e
  have hcl : c < w.heap.size := (Array.getElem?_eq_some_iff.1 h1).1
  have n1 : va.ownBlock ≠ some c := own_ne h2 h1 (by decide)
  have n2 : vt'.ownBlock ≠ some c := own_ne h3 h1 (by decide)
  have h1' : w3.heap[c]? = some (.cells (insCells x va vt').toArray 67 (0, 0)) := (hg.block c hcl (fun e => n2 e.symm)).trans h1
  have h2' : w3.ownsRow B 3 1 va x.2.2.2.2.1.length (ints x.2.2.2.2.1) := h2.kept hg h4
  have n3 : (Value.slice (some ⟨gg, 0, none⟩) (x.2.2.2.2.2.1.length + 1) cap).ownBlock ≠ some c := own_ne hown h1' (by decide)
  refine ⟨va, _, (heap_setCell_same w3 c 5 _ 67 _ h1').trans rfl, own_setCell h2' n1 _, ?_, ?_, h5⟩
  · have := own_setCell hown (p := ⟨c, 5, none⟩) n3 (.slice (some ⟨gg, 0, none⟩) (x.2.2.2.2.2.1.length + 1) cap)
    simpa [addTo] using this
  · cases hv : va.ownBlock with
    | none => exact .inl rfl
    | some q =>
      refine .inr fun e => ?_
      have e : some q = some gg := e
      rcases hat with hat | hat
      · rcases h4 with h4 | h4
        · rw [h4] at hv; cases hv
        · exact h4 (by rw [hv, e, hat])
      · have := (h2.lt q hv).2
        cases e
        omega
end Go.Proofs.YtmiplohoclckcaaGreat
namespace Go.Proofs.YtmiplohoclckcaaGreat
open Go Go.RowKit
open G (Tok Er Ins Fun peek0 peek1 atOf)
theorem InsAt.put {B c i : Nat} {x y : Ins} {w : World} {v : Value} (h : InsAt B c x w) (hy : ∀ va vt, (insCells x va vt).toArray.setIfInBounds i v = (insCells y va vt).toArray) (ha : y.2.2.2.2.1 = x.2.2.2.2.1) (ht : y.2.2.2.2.2.1 = x.2.2.2.2.2.1) : InsAt B c y (w.setCell ⟨c, i, none⟩ v) := by
  obtain ⟨va, vt, h1, h2, h3, h4, h5⟩ := h
  have n1 : va.ownBlock ≠ some c := own_ne h2 h1 (by decide)
  have n2 : vt.ownBlock ≠ some c := own_ne h3 h1 (by decide)
  refine ⟨va, vt, ?_, ?_, ?_, h4, h5⟩
  · rw [heap_setCell_same w c i _ 67 _ h1, hy]
  · rw [ha]; exact own_setCell h2 n1 _
  · rw [ht]; exact own_setCell h3 n2 _
theorem InsAt.setN {B c : Nat} {x : Ins} {w : World} (h : InsAt B c x w) (v : Int) : InsAt B c (setN x v) (w.setCell ⟨c, 2, none⟩ (.int .i64 v)) := h.put (fun _ _ => rfl) rfl rfl
theorem InsAt.setName {B c : Nat} {x : Ins} {w : World} (h : InsAt B c x w) (s : List UInt8) : InsAt B c (setName x s) (w.setCell ⟨c, 6, none⟩ (.string (bs s))) := h.put (fun _ _ => rfl) rfl rfl
theorem shp_of (s : List UInt8) : ∃ a b : Int, L3.readS (bs s) = .tuple #[.agg #[.int .i64 a, .int .i64 b], .int .i64 (shpF s)] := by
  have key : ∃ a b c : Int, L3.readS (bs s) = .tuple #[.agg #[.int .i64 a, .int .i64 b], .int .i64 c] := by
    unfold L3.readS L3.readL
    split
    · exact ⟨_, _, _, rfl⟩
    · split
      · exact ⟨_, _, _, rfl⟩
      · split
        · exact ⟨_, _, _, rfl⟩
        · exact ⟨_, _, _, rfl⟩
  obtain ⟨a, b, c, h⟩ := key
  refine ⟨a, b, ?_⟩
  have e : shpF s = c := by unfold shpF; rw [h]; rfl
  rw [e, h]
end Go.Proofs.YtmiplohoclckcaaGreat
namespace Go.Proofs.YtmiplohoclckcaaGreat
open Go Go.RowKit
open G (Tok Er Ins Fun peek0 peek1 atOf)
theorem Below.undrew {B : Nat} {w w' : World} (h : Below B w.drew w') : Below B w w' := ⟨h.1, h.2, h.3, h.4, h.5⟩
theorem ne_text (s t : List UInt8) : ((bs s).toList != t) = decide (s ≠ t) := by
  rw [ByteArray.toList_eq, bs_data]
  by_cases h : s = t
  · subst h; simp
  · simp [h]
theorem taken_no {l : List Tok} (h : begins 37 (peek0 l) = false) : G.taken l = false := by
  unfold G.taken
  unfold begins at h
  rw [h]; rfl
theorem taken_yes {l : List Tok} (h : begins 37 (peek0 l) = true) : G.taken l = decide (peek1 l ≠ [61]) := by
  unfold G.taken
  unfold begins at h
  rw [h, Bool.true_and]
  by_cases h : peek1 l = [61]
  · rw [h]; rfl
  · simp [h]
end Go.Proofs.YtmiplohoclckcaaGreat
namespace Go.Proofs.YtmiplohoclckcaaGreat
open Go Go.RowKit
open G (Tok Er Ins Fun peek0 peek1 atOf)
/-- How an instruction and the words go on. -/
abbrev Way := Ins → List Tok → Except Er (Ins × List Tok)
def valueW (E : Int) : Way := fun x l => byWord x addArg (G.value idxF E l)
def labelW (E : Int) : Way := fun x l => byWord x addTo (G.label idxF E l)
theorem tail_bulk {l : List Tok} (h : l ≠ []) : l.tail.length + 1 = l.length := by
  cases l with
  | nil => exact absurd rfl h
  | cons t r => simp
/-- How many words are read. -/
def readAt (a : Nat) (w : World) : Nat := (intOf ((w.cell? ⟨a, 1, none⟩).getD (.int .i64 0))).toNat
def perhapsValueW (E : Int) : Way := fun x l => if G.taken l then valueW E x l else .ok (x, l)
def moreV (E : Int) : Nat → Way
  | 0 => fun x l => .ok (x, l)
  | f + 1 => fun x l => if G.taken l then G.andThen (valueW E x l) fun x' l' => moreV E f x' l' else .ok (x, l)
def moreValuesW (E : Int) : Way := fun x l => moreV E (l.length + 1) x l
theorem moreV_stop {E : Int} {f : Nat} {x : Ins} {l : List Tok} (h : G.taken l = false) : moreV E (f + 1) x l = .ok (x, l) := by
  unfold moreV; rw [h]; rfl
theorem is_text (s t : List UInt8) : ((bs s).toList == t) = decide (s = t) := by
  rw [ByteArray.toList_eq, bs_data]
  by_cases h : s = t
  · subst h; simp
  · simp [h]
theorem paired_no {l : List Tok} (h : begins 98 (peek0 l) = false) : G.paired l = false := by
  unfold G.paired
  unfold begins at h
  rw [h]; rfl
def pairV (E : Int) : Nat → Way
  | 0 => fun x l => .ok (x, l)
  | f + 1 => fun x l => if G.paired l then G.andThen (labelW E x l) fun x' l' => G.andThen (valueW E x' l') fun x'' l'' => pairV E f x'' l'' else .ok (x, l)
def morePairsW (E : Int) : Way := fun x l => pairV E (l.length + 1) x l
theorem pairV_stop {E : Int} {f : Nat} {x : Ins} {l : List Tok} (h : G.paired l = false) : pairV E (f + 1) x l = .ok (x, l) := by
  unfold pairV; rw [h]; rfl
def perhapsPointW (E : Int) : Way := fun x l => if begins 64 (peek0 l) then byWord x setN (G.index idxF 64 1048576 3 E l) else .ok (x, l)
end Go.Proofs.YtmiplohoclckcaaGreat
namespace Go.Proofs.YtmiplohoclckcaaGreat
open Go Go.RowKit
open G (Tok Er Ins Fun peek0 peek1 atOf)
/-- Which ways there are, by the operation. -/
def waysN : Int → List Nat
  | 1 => [152]
  | 2 => [150, 150]
  | 3 => [150, 150]
  | 4 => [150, 150]
  | 5 => [150, 150]
  | 6 => [150, 150]
  | 7 => [150, 150]
  | 8 => []
  | 9 => [150, 150]
  | 10 => [153]
  | 11 => [150, 154]
  | 12 => [150, 154]
  | 13 => [150, 154, 150]
  | 14 => [150, 154, 150]
  | 15 => [150, 154]
  | 16 => [150]
  | 17 => [150]
  | 18 => [150, 150]
  | 19 => [150, 150]
  | 20 => [151, 150, 155]
  | 21 => [156, 157, 158]
  | 22 => [150]
  | 23 => [159]
  | 24 => [150, 159]
  | 25 => [150]
  | 26 => [151]
  | 27 => [150, 151, 151]
  | 28 => [160]
  | 29 => [161]
  | _ => []
end Go.Proofs.YtmiplohoclckcaaGreat
namespace Go.Proofs.YtmiplohoclckcaaGreat
open Go Go.RowKit
open G (Tok Er Ins Fun peek0 peek1 atOf)
def numberW (E : Int) : Way := fun x l => byWord x setN (G.anyNum numF E l)
def lettersW (E : Int) : Way := fun x l => byWord x setName (G.shaped shpF E l)
def uptoW (E most : Int) : Way := fun x l => byWord x setN (G.number numF E 0 most l)
def calleeW (E : Int) : Way := fun x l => byWord x setName (G.name namF E l)
/-- What the way of a number does. -/
def wayW (E : Int) : Nat → Way
  | 150 => valueW E
  | 151 => labelW E
  | 152 => numberW E
  | 153 => lettersW E
  | 154 => uptoW E 15
  | 155 => morePairsW E
  | 156 => perhapsPointW E
  | 157 => calleeW E
  | 158 => moreValuesW E
  | 159 => uptoW E 1048576
  | 160 => perhapsValueW E
  | 161 => uptoW E 255
  | _ => fun x l => .ok (x, l)
/-- Ways, one behind the other. -/
def runW (E : Int) : List Nat → Way
  | [] => fun x l => .ok (x, l)
  | k :: r => fun x l => G.andThen (wayW E k x l) (runW E r)
end Go.Proofs.YtmiplohoclckcaaGreat
