/- Contracts of elder functions that layer 6 calls, carried over to this dump. Contracts of elder functions that layer 6 calls, carried over to this dump. Contracts of elder functions that layer 6 calls, carried over to this dump. Contracts of elder functions that layer 6 calls, carried over to this dump. The words' own functions (numbers, names, shapes, operations), and what a reader of words answers. The type that a letter tells: typeOf, of two types or of three. -/
import Derived.Test.YtfmeadbiokcboaaDoorMfAA
import Derived.Test.YtfmeadbiokcboaaDoorProg
import Derived.KernelRfl
import Derived.Below
import Derived.WalkKit
import Derived.WalkSpells
import Derived.WalkSmall
import Derived.WalkLawsBesides
import Derived.Laws.RangeAny
import Derived.Lib.OthersKept
import Derived.Laws.BitsLemmas
import Derived.Laws.BitsAllLaws
import Derived.RowKit
import Derived.Deep.QuietTactic
import Derived.BigQuiet
import Derived.RegionTactic
import Derived.BigRegion
import Derived.Lib.SmallJoins
import Derived.Deep.Cut
import Derived.Laws.AppendOwn
import Derived.OwnWalk
namespace Go.Proofs.YtfmeadbiokcboaaDoor.L1
open Go.RowKit
/-- A byte that is a digit. -/
def isDig (c : UInt8) : Bool := decide (48 ≤ c.toNat) && decide (c.toNat ≤ 57)
/-- What digits are worth. -/
def worth (l : List UInt8) : Nat := l.foldl (fun a c => a * 10 + (c.toNat - 48)) 0
/-- Digits alone, one at least, no nought ahead of others. -/
def isNum (l : List UInt8) : Bool := !l.isEmpty && l.all isDig && (l.head? != some 48 || l.length == 1)
theorem isDig_iff (c : UInt8) : isDig c = true ↔ 48 ≤ c.toNat ∧ c.toNat ≤ 57 := by simp [isDig]
theorem foldl_worth (l : List UInt8) (a : Nat) : l.foldl (fun a c => a * 10 + (c.toNat - 48)) a = a * 10 ^ l.length + worth l := by
  unfold worth
  induction l generalizing a with
  | nil => simp
  | cons c l ih =>
    simp only [List.foldl_cons, List.length_cons]
    rw [ih (a * 10 + (c.toNat - 48)), ih (0 * 10 + (c.toNat - 48))]
    rw [Nat.pow_succ, Nat.add_mul, Nat.zero_mul, Nat.zero_add, Nat.mul_assoc, Nat.mul_comm 10 (10 ^ l.length)]
    omega
theorem worth_append (a b : List UInt8) : worth (a ++ b) = worth a * 10 ^ b.length + worth b := by
  show (a ++ b).foldl _ 0 = _
  rw [List.foldl_append, foldl_worth b]
  rfl
theorem worth_one (c : UInt8) : worth [c] = c.toNat - 48 := by simp [worth]
theorem worth_snoc (l : List UInt8) (c : UInt8) : worth (l ++ [c]) = worth l * 10 + (c.toNat - 48) := by
  rw [worth_append, worth_one]; simp
def lowOf (l : List UInt8) : Bool := l.head? == some 45
def restOf (l : List UInt8) : List UInt8 := if lowOf l then l.tail else l
def readNum (l : List UInt8) : Int × Int :=
  if isNum (restOf l) = true ∧ ¬ (lowOf l = true ∧ restOf l = [48]) then
    if lowOf l = true then (if worth (restOf l) ≤ 9223372036854775808 then (- (worth (restOf l) : Int), 0) else (0, 18))
    else (if worth (restOf l) ≤ 9223372036854775807 then ((worth (restOf l) : Int), 0) else (0, 18))
  else (0, 3)
def indexNum (l : List UInt8) (most : Int) : Int × Int :=
  if (readNum l).2 ≠ 0 then (0, (readNum l).2) else if (readNum l).1 < 0 ∨ most < (readNum l).1 then (0, 18) else ((readNum l).1, 0)
theorem readNum_range (l : List UInt8) : -9223372036854775808 ≤ (readNum l).1 ∧ (readNum l).1 ≤ 9223372036854775807 := by
  unfold readNum
  split
  · split
    · split
      · simp only; omega
      · simp
    · split
      · simp only; omega
      · simp
  · simp
theorem hide {p : Prop} (h : p) : Hid p := h
theorem unhide {p : Prop} (h : Hid p) : p := h
theorem toNat_eq_iff (c : UInt8) (k : Nat) (hk : k < 256) : c.toNat = k ↔ c = UInt8.ofNat k := by
  constructor
  · intro h; apply UInt8.toNat_inj.1; rw [h]; simp [UInt8.toNat_ofNat']; omega
  · rintro rfl; simp [UInt8.toNat_ofNat']; omega
theorem head_at (s : ByteArray) (h : 0 < s.size) : s.data.toList.head? = some s[0] := by
  rw [List.head?_eq_getElem?, List.getElem?_eq_getElem (by simpa using h)]; rfl
theorem size_len (s : ByteArray) : s.data.toList.length = s.size := by simp
theorem empty_true (s : ByteArray) (h : s.size = 0) : s.toList.isEmpty = true ∧ s.data.toList = [] := by
  have : s.data.toList = [] := List.length_eq_zero_iff.1 (by rw [size_len]; exact h)
  exact ⟨by rw [ByteArray.toList_eq, this]; rfl, this⟩
theorem empty_false (s : ByteArray) (h : 0 < s.size) : s.toList.isEmpty = false ∧ s.data.toList.isEmpty = false := by
  have : s.data.toList.isEmpty = false := by
    cases e : s.data.toList with
    | nil => have := size_len s; rw [e] at this; simp at this; omega
    | cons => rfl
  exact ⟨by rw [ByteArray.toList_eq, this], this⟩
/-- What digits without a sign are, if it is not beyond m: the number and the code. -/
def distR (m : Int) (l : List UInt8) : Int × Int := if l.all isDig = true then (if (worth l : Int) ≤ m then ((worth l : Int), 0) else (0, 18)) else (0, 3)
theorem take_one_more (s : ByteArray) (k : Nat) (h : k < s.size) : s.data.toList.take (k + 1) = s.data.toList.take k ++ [s[k]] := by
  rw [List.take_succ_eq_append_getElem (by simpa using h)]; rfl
theorem take_all (s : ByteArray) (k : Nat) (h : ¬ k < s.size) : s.data.toList.take k = s.data.toList := List.take_of_length_le (by rw [size_len]; omega)
theorem ret_two {k : IntKind} {j : IntKind} {a b c d : Int} (h : a = b) (h' : c = d) : Ending.returned (.tuple #[.int k a, .int j c]) = .returned (.tuple #[.int k b, .int j d]) := by rw [h, h']
theorem distR_bad {m : Int} (s : ByteArray) (k : Nat) (hk : k < s.size) (hd : ¬ (48 ≤ (s[k].toNat : Int) ∧ (s[k].toNat : Int) ≤ 57)) : distR m s.data.toList = (0, 3) := by
  unfold distR
  rw [if_neg]
  intro h
  have := (isDig_iff _).1 (List.all_eq_true.1 h s[k] (by
    have : s.data.toList[k]? = some s[k] := by rw [List.getElem?_eq_getElem (by simpa using hk)]; rfl
    exact List.mem_of_getElem? this))
  omega
theorem isNum_iff (l : List UInt8) : isNum l = true ↔ l.isEmpty = false ∧ l.all isDig = true ∧ (l.head? ≠ some 48 ∨ l.length = 1) := by
  simp only [isNum, Bool.and_eq_true, Bool.or_eq_true, bne_iff_ne, beq_iff_eq, Bool.not_eq_true']
  exact ⟨fun h => ⟨h.1.1, h.1.2, h.2⟩, fun h => ⟨⟨h.1, h.2.1⟩, h.2.2⟩⟩
theorem indexNum_bad (l : List UInt8) (m : Int) (h : (readNum l).2 ≠ 0) : indexNum l m = (0, (readNum l).2) := by unfold indexNum; rw [if_pos h]
theorem indexNum_out (l : List UInt8) (m : Int) (h : (readNum l).2 = 0) (h1 : (readNum l).1 < 0 ∨ m < (readNum l).1) : indexNum l m = (0, 18) := by unfold indexNum; rw [if_neg (by simpa using h), if_pos h1]
theorem indexNum_in (l : List UInt8) (m : Int) (h : (readNum l).2 = 0) (h1 : ¬ ((readNum l).1 < 0 ∨ m < (readNum l).1)) : indexNum l m = ((readNum l).1, 0) := by unfold indexNum; rw [if_neg (by simpa using h), if_neg h1]
end Go.Proofs.YtfmeadbiokcboaaDoor.L1
namespace Go.Proofs.YtfmeadbiokcboaaDoor.L2
open Go.RowKit
def smaB (c : Int) : Bool := decide (97 ≤ c) && decide (c ≤ 122)
def digB (c : Int) : Bool := decide (48 ≤ c) && decide (c ≤ 57)
def greB (c : Int) : Bool := decide (65 ≤ c) && decide (c ≤ 90)
def eolB (c : Int) : Bool := decide (c = 10) || decide (c = 13)
def blaB (c : Int) : Bool := decide (c = 32) || decide (c = 9) || eolB c
def aloB (c : Int) : Bool := decide (c = 40) || decide (c = 41) || decide (c = 123) || decide (c = 125) || decide (c = 61) || decide (c = 58)
def togB (c : Int) : Bool := decide (c = 46) || decide (c = 37) || decide (c = 64) || decide (c = 45) || decide (c = 95) || smaB c || greB c || digB c
/-- The words so far, and the one that has begun, if any, up to p. -/
def shutW (ws : List (Nat × Nat)) (b : Option Nat) (p : Nat) : List (Nat × Nat) := match b with
  | none => ws
  | some q => ws ++ [(q, p)]
/-- From place p on: the words behind ws, or the place of a byte that no word has. -/
def scan : List UInt8 → Nat → List (Nat × Nat) → Option Nat → Bool → Nat ⊕ List (Nat × Nat)
  | [], p, ws, b, _ => .inr (shutW ws b p)
  | c :: l, p, ws, b, true => scan l (p + 1) ws b (!eolB c.toNat)
  | c :: l, p, ws, b, false =>
    if togB c.toNat then scan l (p + 1) ws (some (b.getD p)) false
    else if aloB c.toNat then scan l (p + 1) (shutW ws b p ++ [(p, p + 1)]) none false
    else if (c.toNat : Int) = 35 then scan l (p + 1) (shutW ws b p) none true
    else if blaB c.toNat then scan l (p + 1) (shutW ws b p) none false
    else .inl p
theorem scan_note (c : UInt8) (l : List UInt8) (p : Nat) (ws : List (Nat × Nat)) (b : Option Nat) : scan (c :: l) p ws b true = scan l (p + 1) ws b (!eolB c.toNat) := by rw [scan]
theorem scan_tog {c : UInt8} (l : List UInt8) (p : Nat) (ws : List (Nat × Nat)) (b : Option Nat) (h : togB c.toNat = true) : scan (c :: l) p ws b false = scan l (p + 1) ws (some (b.getD p)) false := by rw [scan, if_pos h]
theorem scan_alo {c : UInt8} (l : List UInt8) (p : Nat) (ws : List (Nat × Nat)) (b : Option Nat) (h : togB c.toNat = false) (h2 : aloB c.toNat = true) : scan (c :: l) p ws b false = scan l (p + 1) (shutW ws b p ++ [(p, p + 1)]) none false := by
  rw [scan, if_neg (by simp [h]), if_pos h2]
theorem scan_hash {c : UInt8} (l : List UInt8) (p : Nat) (ws : List (Nat × Nat)) (b : Option Nat) (h : togB c.toNat = false) (h2 : aloB c.toNat = false) (h3 : (c.toNat : Int) = 35) : scan (c :: l) p ws b false = scan l (p + 1) (shutW ws b p) none true := by
  rw [scan, if_neg (by simp [h]), if_neg (by simp [h2]), if_pos h3]
theorem scan_bla {c : UInt8} (l : List UInt8) (p : Nat) (ws : List (Nat × Nat)) (b : Option Nat) (h : togB c.toNat = false) (h2 : aloB c.toNat = false) (h3 : ¬ (c.toNat : Int) = 35) (h4 : blaB c.toNat = true) : scan (c :: l) p ws b false = scan l (p + 1) (shutW ws b p) none false := by
  rw [scan, if_neg (by simp [h]), if_neg (by simp [h2]), if_neg h3, if_pos h4]
theorem scan_err {c : UInt8} (l : List UInt8) (p : Nat) (ws : List (Nat × Nat)) (b : Option Nat) (h : togB c.toNat = false) (h2 : aloB c.toNat = false) (h3 : ¬ (c.toNat : Int) = 35) (h4 : blaB c.toNat = false) : scan (c :: l) p ws b false = .inl p := by
  rw [scan, if_neg (by simp [h]), if_neg (by simp [h2]), if_neg h3, if_neg (by simp [h4])]
theorem drop_cons (s : ByteArray) (p : Nat) (h : p < s.size) : s.data.toList.drop p = s[p] :: s.data.toList.drop (p + 1) := by
  rw [List.drop_eq_getElem_cons (by simpa using h)]; rfl
theorem blen (s : ByteArray) : s.data.toList.length = s.size := by rw [Array.length_toList]; rfl
def place : Nat → List (List UInt8) → List (Nat × Nat)
  | _, [] => []
  | p, x :: r => (p, p + x.length) :: place (p + x.length + 1) r
/-- The words of a text: where each begins and ends, or the place of a byte that no word has. -/
def words (s : ByteArray) : Nat ⊕ List (Nat × Nat) := scan s.data.toList 0 [] none false
def nameFrom : List UInt8 → Nat → Bool
  | [], _ => true
  | c :: l, p => (smaB c.toNat || (decide (0 < p) && (digB c.toNat || decide ((c.toNat : Int) = 95)))) && nameFrom l (p + 1)
def nameB (l : List UInt8) : Bool := decide (l.length ≤ 24) && nameFrom l 0 && !l.isEmpty
theorem ret_bool {a b : Bool} (h : a = b) : Ending.returned (.bool a) = .returned (.bool b) := by rw [h]
theorem hide {p : Prop} (h : p) : Hid p := h
theorem unhide {p : Prop} (h : Hid p) : p := h
theorem nameFrom_end (s : ByteArray) (p q : Nat) (h : ¬ p < s.size) : nameFrom (s.data.toList.drop p) q = true := by
  rw [List.drop_of_length_le (by rw [blen]; omega)]; rfl
theorem nameFrom_step (s : ByteArray) (p : Nat) (h : p < s.size) : nameFrom (s.data.toList.drop p) p = ((smaB (s[p]'h).toNat || (decide (0 < p) && (digB (s[p]'h).toNat || decide (((s[p]'h).toNat : Int) = 95)))) && nameFrom (s.data.toList.drop (p + 1)) (p + 1)) := by
  rw [drop_cons s p h]; rfl
theorem name_long {s : ByteArray} (h : 24 < s.size) : nameB s.data.toList = false := by
  have : ¬ s.data.toList.length ≤ 24 := by rw [blen]; omega
  simp only [nameB, this, decide_false, Bool.false_and]
theorem name_fit {s : ByteArray} (h : ¬ 24 < s.size) : nameB s.data.toList = (nameFrom s.data.toList 0 && !s.data.toList.isEmpty) := by
  have : s.data.toList.length ≤ 24 := by rw [blen]; omega
  simp only [nameB, this, decide_true, Bool.true_and]
theorem name_none {s : ByteArray} (h : s.size < 1) : nameB s.data.toList = false := by
  have : s.data.toList = [] := List.length_eq_zero_iff.1 (by rw [blen]; omega)
  rw [this]; rfl
theorem name_some {s : ByteArray} (h : ¬ s.size < 1) (h2 : ¬ 24 < s.size) : nameB s.data.toList = nameFrom s.data.toList 0 := by
  rw [name_fit h2]
  have : s.data.toList.isEmpty = false := by
    cases e : s.data.toList with
    | nil => have := blen s; rw [e] at this; simp at this; omega
    | cons => rfl
  rw [this, Bool.not_false, Bool.and_true]
set_option maxHeartbeats 1000000 in
theorem rname_any (s : ByteArray) (w : World) (hs : s.size ≤ maxLen) :
    Calls Tryd.prog 56 #[.string s] w fun e w' => e = .returned (.bool (nameB s.data.toList)) ∧ w' = w := by
  unfold maxLen at hs
  by_cases hl : s.size < 1
  · go_enter Tryd.func56, Tryd.ntmps56
    go_wp2
    go_ret
    exact ⟨ret_bool (name_none hl).symm, rfl⟩
  · by_cases hl2 : 24 < s.size
    · go_enter Tryd.func56, Tryd.ntmps56
      go_wp2
      go_ret
      exact ⟨ret_bool (name_long hl2).symm, rfl⟩
    · have HF := hide (name_some hl hl2)
      go_enter Tryd.func56, Tryd.ntmps56
      go_wp2
      go_loop [3] (fun i => ∃ pos : Nat, i = .int .i64 pos ∧ pos ≤ s.size ∧ Hid (nameFrom (s.data.toList.drop pos) pos = nameFrom s.data.toList 0)) (fun i => s.size - (intOf i).toNat)
      case atStart => exact ⟨0, rfl, Nat.zero_le _, rfl⟩
      case round =>
        obtain ⟨pos, rfl, hp, HN⟩ := hrel
        by_cases hlt : pos < s.size
        · have HS := hide (nameFrom_step s pos hlt)
          have hc : ((s[pos]'hlt).toNat : Int) ≤ 255 := by have := (s[pos]'hlt).toNat_lt; omega
          by_cases a0 : pos = 0 <;> by_cases a1 : 97 ≤ ((s[pos]'hlt).toNat : Int) <;> by_cases a2 : ((s[pos]'hlt).toNat : Int) ≤ 122 <;> by_cases a3 : 48 ≤ ((s[pos]'hlt).toNat : Int) <;> by_cases a4 : ((s[pos]'hlt).toNat : Int) ≤ 57
          all_goals try (exfalso; omega)
          all_goals
            have HK : Hid (nameFrom s.data.toList 0 = (_ && _)) := hide ((unhide HN).symm.trans (unhide HS))
            have HA := hide a0
            clear HN HS a0
            go_wp2
          all_goals first
            | (go_round
               case rel => exact ⟨pos + 1, by go_num, by omega, hide (by rw [unhide HK]; grind [smaB, digB])⟩
               case measure => simp [intOf]; omega)
            | (go_ret
               exact ⟨ret_bool (by rw [unhide HF, unhide HK]; grind [smaB, digB]), rfl⟩)
        · go_wp2
          go_ret
          obtain rfl : pos = s.size := by omega
          exact ⟨ret_bool (by rw [unhide HF, ← unhide HN, nameFrom_end s s.size s.size (Nat.lt_irrefl _)]), rfl⟩
/-- The cells of words: each one's text and where it begins. -/
def cellsT : List (ByteArray × Int) → List Value
  | [] => []
  | t :: r => .string t.1 :: .int .i64 t.2 :: cellsT r
def tok (s : ByteArray) (x : Nat × Nat) : ByteArray × Int := (s.extract x.1 x.2, (x.1 : Int))
theorem cellsT_append (a b : List (ByteArray × Int)) : cellsT (a ++ b) = cellsT a ++ cellsT b := by
  induction a with
  | nil => rfl
  | cons t r ih => simp [cellsT, ih]
theorem cellsT_snoc (s : ByteArray) (ws : List (Nat × Nat)) (a b : Nat) : cellsT ((ws ++ [(a, b)]).map (tok s)) = cellsT (ws.map (tok s)) ++ [.string (s.extract a b), .int .i64 a] := by
  rw [List.map_append, cellsT_append]; rfl
theorem below_grown {w w' : World} (h : Below w.heap.size w w') : w.grownBy w' none := ⟨h.1, h.2, h.3, h.4, fun k hk _ => h.5 k hk⟩
theorem Tryd.info77 : (Tryd.prog.info? 77).map (fun i => (i.zero, i.size, i.bytes)) = some (some (.agg #[.string ⟨#[]⟩, .int .i64 0]), 2, 24) := by kernel_rfl
theorem cells_two {w1 : World} {a b : Value} {t : TypeId} : ∀ j u, [a, b][j]? = some u → (w1.alloc (.cells #[a, b] t)).cell? ((⟨w1.heap.size, 0, none⟩ : Addr).add j) = some u := by
  intro j u hj
  match j, hj with
  | 0, hj => simp at hj; subst hj; simp [Addr.add]
  | 1, hj => simp at hj; subst hj; simp [Addr.add]
theorem one_two {s : ByteArray} {a : Int} : ∀ u ∈ [Value.string s, Value.int .i64 a], u.oneCell' = true := by
  intro u hu
  simp only [List.mem_cons, List.not_mem_nil, or_false] at hu
  rcases hu with rfl | rfl <;> rfl
end Go.Proofs.YtfmeadbiokcboaaDoor.L2
namespace Go.Proofs.YtfmeadbiokcboaaDoor.L3
open Go
open Go Go.RowKit
def pw (k : Nat) : Int := ((2 ^ k : Nat) : Int)
def bit (m k : Nat) : Bool := m.testBit k
def letter (m k : Nat) : UInt8 := if bit m k then 112 else 105
def letters (m n : Nat) : List UInt8 := (List.range n).map (letter m)
def isL (c : UInt8) : Bool := c == 105 || c == 112
def allL (l : List UInt8) : Bool := l.all isL
def mask (l : List UInt8) : Nat → Nat
  | 0 => 0
  | k + 1 => mask l k + if l[k]? = some 112 then 2 ^ k else 0
/-- May a shape of these slots and this mask be? -/
def may (s m : Int) : Bool := decide (0 ≤ s ∧ s ≤ 16 ∧ 0 ≤ m ∧ m < pw s.toNat)
theorem mask_lt (l : List UInt8) : ∀ k, mask l k < 2 ^ k
  | 0 => by simp [mask]
  | k + 1 => by
    have := mask_lt l k
    rw [mask, Nat.pow_succ]; split <;> omega
theorem hide {p : Prop} (h : p) : Hid p := h
theorem below_box (w : World) (o : Obj) : Below w.heap.size w (w.alloc o) := (Below.refl _ _).alloc (Nat.le_refl _) _
theorem size_len (s : ByteArray) : s.data.toList.length = s.size := by simp
theorem empty_true (s : ByteArray) (h : s.size = 0) : s.toList.isEmpty = true := by
  have : s.data.toList = [] := List.length_eq_zero_iff.1 (by rw [size_len]; exact h)
  rw [ByteArray.toList_eq, this]; rfl
theorem empty_false (s : ByteArray) (h : 0 < s.size) : s.toList.isEmpty = false := by
  rw [ByteArray.toList_eq]
  cases e : s.data.toList with
  | nil => have := size_len s; rw [e] at this; simp at this; omega
  | cons => rfl
theorem point_true (s : ByteArray) (h : s.data.toList = [46]) : (s.toList == [46]) = true := by
  rw [ByteArray.toList_eq, h]; rfl
theorem point_false (s : ByteArray) (h : s.data.toList ≠ [46]) : (s.toList == [46]) = false := by
  rw [ByteArray.toList_eq]; simpa using h
theorem at_list (s : ByteArray) (k : Nat) (h : k < s.size) : s.data.toList[k]? = some s[k] := by
  rw [List.getElem?_eq_getElem (by simpa using h)]; rfl
theorem toNat_eq_iff (c : UInt8) (k : Nat) (hk : k < 256) : c.toNat = k ↔ c = UInt8.ofNat k := by
  constructor
  · intro h; apply UInt8.toNat_inj.1; rw [h]; simp [UInt8.toNat_ofNat']; omega
  · rintro rfl; simp [UInt8.toNat_ofNat']; omega
theorem mask_i (s : ByteArray) (k : Nat) (h : k < s.size) (hc : ¬ (s[k].toNat : Int) = 112) : mask s.data.toList (k + 1) = mask s.data.toList k := by
  rw [mask, at_list s k h, if_neg, Nat.add_zero]
  intro e
  have : s[k] = 112 := Option.some.inj e
  exact hc (by rw [this]; rfl)
theorem mask_p (s : ByteArray) (k : Nat) (h : k < s.size) (hc : (s[k].toNat : Int) = 112) : mask s.data.toList (k + 1) = mask s.data.toList k + 2 ^ k := by
  rw [mask, at_list s k h, if_pos]
  rw [(toNat_eq_iff s[k] 112 (by decide)).1 (by omega)]; rfl
/-- The first letters are letters of a shape. -/
def Upto (s : ByteArray) (k : Nat) : Prop := ∀ j, j < k → ∀ h : j < s.size, isL s[j] = true
theorem upto_zero (s : ByteArray) : Upto s 0 := fun j h => by omega
theorem upto_succ {s : ByteArray} {k : Nat} (h : Upto s k) (hk : k < s.size) (hc : (s[k].toNat : Int) = 105 ∨ (s[k].toNat : Int) = 112) : Upto s (k + 1) := by
  intro j hj hs
  by_cases e : j < k
  · exact h j e hs
  · have : j = k := by omega
    subst this
    rcases hc with hc | hc
    · rw [(toNat_eq_iff s[j] 105 (by decide)).1 (by omega)]; rfl
    · rw [(toNat_eq_iff s[j] 112 (by decide)).1 (by omega)]; rfl
theorem upto_all {s : ByteArray} (h : Upto s s.size) : allL s.data.toList = true := by
  unfold allL
  rw [List.all_eq_true]
  intro c hc
  obtain ⟨j, hj, rfl⟩ := List.mem_iff_getElem.1 hc
  have hj' : j < s.size := by simpa using hj
  exact h j hj' hj'
theorem all_no {s : ByteArray} {k : Nat} (hk : k < s.size) (h1 : ¬ (s[k].toNat : Int) = 105) (h2 : ¬ (s[k].toNat : Int) = 112) : allL s.data.toList = false := by
  rw [Bool.eq_false_iff]
  intro h
  have := List.all_eq_true.1 h s[k] (List.mem_of_getElem? (at_list s k hk))
  unfold isL at this
  simp only [Bool.or_eq_true, beq_iff_eq] at this
  rcases this with e | e
  · exact h1 (by rw [e]; rfl)
  · exact h2 (by rw [e]; rfl)
/-- What letters, neither a point nor too few nor too many, are read as. -/
def readL (l : List UInt8) : Value :=
  if allL l then .tuple #[.agg #[.int .i64 l.length, .int .i64 (mask l l.length)], .int .i64 0] else .tuple #[.agg #[.int .i64 0, .int .i64 0], .int .i64 16]
theorem readL_yes {s : ByteArray} (h : Upto s s.size) : readL s.data.toList = .tuple #[.agg #[.int .i64 s.size, .int .i64 (mask s.data.toList s.size)], .int .i64 0] := by
  unfold readL; rw [upto_all h, size_len]; rfl
theorem readL_no {s : ByteArray} {k : Nat} (hk : k < s.size) (h1 : ¬ (s[k].toNat : Int) = 105) (h2 : ¬ (s[k].toNat : Int) = 112) : readL s.data.toList = .tuple #[.agg #[.int .i64 0, .int .i64 0], .int .i64 16] := by
  unfold readL; rw [all_no hk h1 h2]; rfl
/-- What a text is read as. -/
def readS (s : ByteArray) : Value :=
  if s.data.toList = [46] then .tuple #[.agg #[.int .i64 0, .int .i64 0], .int .i64 0]
  else if s.size = 0 ∨ 16 < s.size then .tuple #[.agg #[.int .i64 0, .int .i64 0], .int .i64 16]
  else readL s.data.toList
end Go.Proofs.YtfmeadbiokcboaaDoor.L3
namespace Go.Proofs.YtfmeadbiokcboaaDoor.L5
set_option maxRecDepth 8000
open Go
open Go Go.RowKit
def tab : List (List UInt8 × Int × Int × Int × Int) := [
  ([], 0, 0, 0, 0),
  ([99, 111, 110, 115, 116], 0, 0, 1, 32),
  ([97, 100, 100], 1, 1, 1, 32),
  ([115, 117, 98], 1, 1, 1, 32),
  ([109, 117, 108], 1, 1, 1, 32),
  ([100, 105, 118], 1, 1, 1, 1),
  ([108, 116], 1, 1, 1, 32),
  ([101, 113], 1, 1, 1, 32),
  ([110, 105, 108], 0, 0, 2, 32),
  ([115, 97, 109, 101], 2, 2, 1, 32),
  ([110, 101, 119], 0, 0, 2, 0),
  ([108, 111, 97, 100, 46, 105], 2, 0, 1, 3),
  ([108, 111, 97, 100, 46, 112], 2, 0, 2, 3),
  ([115, 116, 111, 114, 101, 46, 105], 2, 1, 0, 5),
  ([115, 116, 111, 114, 101, 46, 112], 2, 2, 0, 5),
  ([115, 108, 111, 116], 2, 0, 3, 1),
  ([103, 101, 116, 46, 105], 3, 0, 1, 3),
  ([103, 101, 116, 46, 112], 3, 0, 2, 3),
  ([112, 117, 116, 46, 105], 3, 1, 0, 5),
  ([112, 117, 116, 46, 112], 3, 2, 0, 5),
  ([112, 104, 105], 0, 0, 0, 128),
  ([99, 97, 108, 108], 0, 0, 0, 199),
  ([111, 117, 116], 1, 0, 0, 16),
  ([112, 111, 108, 108], 0, 0, 0, 80),
  ([114, 101, 108, 111, 99], 0, 0, 0, 128),
  ([109, 97, 114, 107], 2, 0, 0, 16),
  ([98, 114], 0, 0, 0, 8),
  ([105, 102], 1, 0, 0, 8),
  ([114, 101, 116], 0, 0, 0, 8),
  ([102, 97, 105, 108], 0, 0, 0, 9)]
/-- Which row is an operation's: its number, or 0 where there is none. -/
def num (op : Int) : Nat := if 1 ≤ op ∧ op ≤ 29 then op.toNat else 0
def rowAt (k : Nat) : List UInt8 × Int × Int × Int × Int := tab.getD k ([], 0, 0, 0, 0)
def letters (k : Nat) : List UInt8 := (rowAt k).1
def tk0 (k : Nat) : Int := (rowAt k).2.1
def tk1 (k : Nat) : Int := (rowAt k).2.2.1
def mk (k : Nat) : Int := (rowAt k).2.2.2.1
def ds (k : Nat) : Int := (rowAt k).2.2.2.2
def word (k : Nat) : ByteArray := ⟨(letters k).toArray⟩
theorem num_le (op : Int) : num op ≤ 29 := by unfold num; split <;> omega
theorem num_out {op : Int} (h : ¬ (1 ≤ op ∧ op ≤ 29)) : num op = 0 := by unfold num; rw [if_neg h]
/-- Does a row do one of some things beside? -/
def beside (k : Nat) (things : Int) : Bool := bits BinOp.and .i64 (ds k) things != 0
/-- A list of operations that is just those whose row does one of some things beside, asked for every number. -/
theorem beside_list {l : List Int} {things : Int} (h : ∀ k, k < 30 → l.contains ((k : Nat) : Int) = beside k things) (hl : l.all (fun x => decide (1 ≤ x) && decide (x ≤ 29)) = true) (op : Int) : l.contains op = beside (num op) things := by
  by_cases ho : 1 ≤ op ∧ op ≤ 29
  · have e : op = ((op.toNat : Nat) : Int) := by omega
    have := h op.toNat (by omega)
    rw [← e] at this
    rw [this, show num op = op.toNat from if_pos ho]
  · have h0 := h 0 (by omega)
    rw [num_out ho, ← h0]
    have no : ∀ x : Int, ¬ (1 ≤ x ∧ x ≤ 29) → l.contains x = false := by
      intro x hx
      rw [Bool.eq_false_iff]
      intro hc
      have := List.all_eq_true.1 hl x (by simpa using hc)
      simp only [Bool.and_eq_true, decide_eq_true_eq] at this
      exact hx this
    rw [no op ho, no ((0 : Nat) : Int) (by omega)]
def typedL : List Int := [20, 21, 24]
theorem typed_l (op : Int) : typedL.contains op = beside (num op) 128 := beside_list (by decide +kernel) (by decide) op
/-- A type as a letter. -/
def letter (t : Int) : ByteArray := if t = 1 then ⟨#[105]⟩ else if t = 2 then ⟨#[112]⟩ else if t = 3 then ⟨#[100]⟩ else ⟨#[110]⟩
/-- May an operation be of a type? -/
def may (op t : Int) : Bool :=
  if op = 20 then decide (t = 1 ∨ t = 2 ∨ t = 3) else if op = 21 then decide (t = 0 ∨ t = 1 ∨ t = 2) else if op = 24 then decide (t = 2 ∨ t = 3) else decide (t = 0)
/-- The word of an instruction. -/
def iword (op t : Int) : ByteArray := if beside (num op) 128 then word (num op) ++ ⟨#[46]⟩ ++ letter t else word (num op)
/-- What an instruction makes. -/
def imakes (op t : Int) : Int := if beside (num op) 128 then t else mk (num op)
/-- The types that an operation takes, those that are none left out. -/
def takes (k : Nat) : List Int := [tk0 k, tk1 k].filter (fun x => x != 0)
/-- The pairs of an operation and a type, one behind the other: is it this one's word? -/
def hit (s : ByteArray) (i : Nat) : Bool := may ((i / 4 + 1 : Nat) : Int) ((i % 4 : Nat) : Int) && (iword ((i / 4 + 1 : Nat) : Int) ((i % 4 : Nat) : Int)).toList == s.toList
def findN (s : ByteArray) : Nat → Nat → Int × Int
  | 0, _ => (0, 0)
  | n + 1, i => if hit s i then (((i / 4 + 1 : Nat) : Int), ((i % 4 : Nat) : Int)) else findN s n (i + 1)
def find (s : ByteArray) : Int × Int := findN s 116 0
theorem hide {p : Prop} (h : p) : Hid p := h
theorem ret_bool {x y : Bool} (h : x = y) : Ending.returned (.bool x) = .returned (.bool y) := by rw [h]
theorem ret_int {x y : Int} (h : x = y) : Ending.returned (.int .i64 x) = .returned (.int .i64 y) := by rw [h]
theorem ret_str {x y : ByteArray} (h : x = y) : Ending.returned (.string x) = .returned (.string y) := by rw [h]
theorem below_box (w : World) (o : Obj) : Below w.heap.size w (w.alloc o) := (Below.refl _ _).alloc (Nat.le_refl _) _
theorem below_step {a b c : World} (h : Below a.heap.size a b) (k : Below b.heap.size b c) : Below a.heap.size a c := h.trans (k.mono h.size)
theorem typed_any (op : Int) (w : World) : Calls Tryd.prog 66 #[.int .i64 op] w fun e w' => e = .returned (.bool (beside (num op) 128)) ∧ w' = w := by
  have HL := hide (typed_l op)
  go_enter Tryd.func66, Tryd.ntmps66
  go_wp2
  all_goals (go_ret; refine ⟨ret_bool ?_, rfl⟩; rw [← HL.out, Bool.eq_iff_iff]; simp [typedL]; try omega)
def nth (l : List Int) (i : Nat) : Int := l.getD i 0
/-- A slice of numbers reads as a list. -/
def SlI (w : World) (ao : Option Addr) (l : List Int) : Prop :=
  l = [] ∨ ∃ b, ao = some ⟨b, 0, none⟩ ∧ b < w.heap.size ∧ ∀ i, i < l.length → w.cell? ⟨b, i, none⟩ = some (.int .i64 (nth l i))
/-- A block reads as these values. -/
def Box (w : World) (g : Nat) (l : List Value) : Prop := g < w.heap.size ∧ ∀ i v, l[i]? = some v → w.cell? ⟨g, i, none⟩ = some v
theorem Box.new (w : World) (l : List Value) (t : TypeId) : Box (w.alloc (.cells l.toArray t)) w.heap.size l :=
  ⟨by simp, fun i v h => by rw [Joins.cell_alloc_mark_at _ _ _ _ _ _ rfl]; simpa using h⟩
theorem Box.below {w w1 : World} {g : Nat} {l : List Value} (h : Box w g l) (hb : Below w.heap.size w w1) : Box w1 g l :=
  ⟨Nat.lt_of_lt_of_le h.1 hb.size, fun i v hi => (hb.cell (p := ⟨g, i, none⟩) h.1).trans (h.2 i v hi)⟩
theorem below_drew1 (w : World) : Below w.heap.size w w.drew := (Below.refl _ _).drew
open Classical in
/-- Any world in which all that there was in W is as it was: x itself, if it is one; else W behind a draw. -/
noncomputable def grewTo (W x : World) : World := if Below W.heap.size W x then x else W.drew
theorem grewTo_below (W x : World) : Below W.heap.size W (grewTo W x) := by
  unfold grewTo; split
  · assumption
  · exact below_drew1 W
theorem grewTo_of {W w' : World} (h : Below W.heap.size W w') : w' = grewTo W w' := by unfold grewTo; rw [if_pos h]
theorem region_grew {P : Program} {id : Nat} {Q : Exit → Act → World → Prop} {a : Act} {W : World} {l : List Oper} (hm : P.follows .mixedOrders = true) (hB : Region.lexB .any l.toArray = true)
    (h : wpQuiet P l.toArray (fun w' => ∃ x : World, w' = grewTo W x) (fun a' => ∀ w', (∃ x : World, w' = grewTo W x) → Q .normal a' w') l a) : (Code.region id l.toArray true).wp P Q a W :=
  wp_region_quiet (C := fun w' => ∃ x : World, w' = grewTo W x) hm hB ⟨W.drew, grewTo_of (below_drew1 W)⟩ (by simpa using h)
theorem calls_grew {P : Program} {f : FuncId} {args : Array Value} {W : World} {x : World} {v : Value}
    (h : Calls P f args (grewTo W x) fun e w' => e = .returned v ∧ Below (grewTo W x).heap.size (grewTo W x) w') :
    Calls P f args (grewTo W x) fun e w'' => e = .returned v ∧ ∃ y : World, w'' = grewTo W y :=
  h.mono fun _ _ ⟨he, hb⟩ => ⟨he, _, grewTo_of (below_step (grewTo_below W x) hb)⟩
theorem calls_grew_same {P : Program} {f : FuncId} {args : Array Value} {W : World} {x : World} {v : Value}
    (h : Calls P f args (grewTo W x) fun e w' => e = .returned v ∧ w' = grewTo W x) :
    Calls P f args (grewTo W x) fun e w'' => e = .returned v ∧ ∃ y : World, w'' = grewTo W y :=
  h.mono fun _ _ ⟨he, hb⟩ => ⟨he, x, hb⟩
theorem grew_box {W : World} {g : Nat} {l : List Value} (h : Box W g l) (x : World) : Box (grewTo W x) g l := h.below (grewTo_below W x)
theorem iword_typed {op t : Int} (h : beside (num op) 128 = true) : word (num op) ++ ⟨#[46]⟩ ++ letter t = iword op t := by unfold iword; rw [if_pos h]
theorem iword_plain {op t : Int} (h : beside (num op) 128 = false) : word (num op) = iword op t := by unfold iword; rw [if_neg (by simp [h])]
theorem imakes_typed {op t : Int} (h : beside (num op) 128 = true) : t = imakes op t := by unfold imakes; rw [if_pos h]
theorem imakes_plain {op t : Int} (h : beside (num op) 128 = false) : mk (num op) = imakes op t := by unfold imakes; rw [if_neg (by simp [h])]
theorem word_size (op : Int) : (word (num op)).size ≤ 7 := by
  have : ∀ k, k ≤ 29 → (word k).size ≤ 7 := by decide
  exact this _ (num_le op)
theorem letter_size (t : Int) : (letter t).size = 1 := by unfold letter; split <;> (try split) <;> (try split) <;> rfl
/-- The numbers of the operations that make something of a type of their own. -/
theorem mk_else {op : Int} (h : [1, 2, 3, 4, 5, 6, 7, 9, 11, 16, 8, 10, 12, 17, 15].contains op = false) : mk (num op) = 0 := by
  by_cases ho : 1 ≤ op ∧ op ≤ 29
  · have e : op = ((op.toNat : Nat) : Int) := by omega
    have hk : ∀ k, k ≤ 29 → [1, 2, 3, 4, 5, 6, 7, 9, 11, 16, 8, 10, 12, 17, 15].contains ((k : Nat) : Int) = false → mk k = 0 := by decide +kernel
    rw [show num op = op.toNat from if_pos ho]
    exact hk op.toNat (by omega) (by rw [← e]; exact h)
  · rw [num_out ho]; rfl
theorem mk_at {op : Int} (k v : Int) (h : (op == k) = true) (hv : mk (num k) = v) : v = mk (num op) := by
  rw [← hv, show op = k by simpa using h]
theorem mk_not {op : Int} (h1 : (op == 1) = false) (h2 : (op == 2) = false) (h3 : (op == 3) = false) (h4 : (op == 4) = false) (h5 : (op == 5) = false) (h6 : (op == 6) = false) (h7 : (op == 7) = false) (h9 : (op == 9) = false) (h11 : (op == 11) = false) (h16 : (op == 16) = false)
    (h8 : (op == 8) = false) (h10 : (op == 10) = false) (h12 : (op == 12) = false) (h17 : (op == 17) = false) (h15 : (op == 15) = false) : 0 = mk (num op) := by
  refine (mk_else ?_).symm
  simp only [List.contains_cons, List.contains_nil, h1, h2, h3, h4, h5, h6, h7, h8, h9, h10, h11, h12, h15, h16, h17]
  rfl
theorem refMakes_any (op t : Int) (a b c d e f : Value) (w : World) : Calls Tryd.prog 61 #[.agg #[.int .i64 op, a, b, .int .i64 t, c, d, e, f]] w fun e w' => e = .returned (.int .i64 (imakes op t)) ∧ Below w.heap.size w w' := by
  have Hb := hide (below_box w (.cells #[.int .i64 op, a, b, .int .i64 t, c, d, e, f] 53))
  cases h : beside (num op) 128
  · have HM := hide (imakes_plain (t := t) h)
    replace h := hide h
    go_enter Tryd.func61, Tryd.ntmps61
    go_wp2_with fail
    refine (typed_any op _).mono ?_; rintro e w1 ⟨rfl, rfl⟩
    rw [h.out]
    go_wp2_with fail
    all_goals (go_ret; refine ⟨ret_int ?_, Hb.out⟩; rw [← HM.out])
    all_goals first
      | exact mk_at 1 1 (by assumption) rfl
      | exact mk_at 2 1 (by assumption) rfl
      | exact mk_at 3 1 (by assumption) rfl
      | exact mk_at 4 1 (by assumption) rfl
      | exact mk_at 5 1 (by assumption) rfl
      | exact mk_at 6 1 (by assumption) rfl
      | exact mk_at 7 1 (by assumption) rfl
      | exact mk_at 9 1 (by assumption) rfl
      | exact mk_at 11 1 (by assumption) rfl
      | exact mk_at 16 1 (by assumption) rfl
      | exact mk_at 8 2 (by assumption) rfl
      | exact mk_at 10 2 (by assumption) rfl
      | exact mk_at 12 2 (by assumption) rfl
      | exact mk_at 17 2 (by assumption) rfl
      | exact mk_at 15 3 (by assumption) rfl
      | exact mk_not (by assumption) (by assumption) (by assumption) (by assumption) (by assumption) (by assumption) (by assumption) (by assumption) (by assumption) (by assumption) (by assumption) (by assumption) (by assumption) (by assumption) (by assumption)
  · have HM := hide (imakes_typed (t := t) h)
    replace h := hide h
    go_enter Tryd.func61, Tryd.ntmps61
    go_wp2_with fail
    refine (typed_any op _).mono ?_; rintro e w1 ⟨rfl, rfl⟩
    rw [h.out]
    go_wp2_with fail
    go_ret
    exact ⟨ret_int HM.out, Hb.out⟩
/-- Those of the first types that are some. -/
def part (k : Nat) : Nat → List Int
  | 0 => []
  | 1 => [tk0 k].filter (fun x => x != 0)
  | _ => takes k
/-- A call that answers a slice of these numbers. -/
def Lists (l : List Int) (w : World) (e : Ending) (w' : World) : Prop := ∃ ao cap, e = .returned (.slice ao l.length cap) ∧ SlI w' ao l ∧ Below w.heap.size w w'
/-- What is still to be gone through from here on tells what the whole tells. -/
def Rest (s : ByteArray) (k j : Nat) : Prop := findN s (116 - (4 * (k - 1) + j)) (4 * (k - 1) + j) = find s
theorem rest_start (s : ByteArray) : Rest s 1 0 := rfl
theorem rest_line {s : ByteArray} {k : Nat} (h : Rest s k 4) (hk : 1 ≤ k) : Rest s (k + 1) 0 := by
  unfold Rest at *
  rw [show 4 * (k + 1 - 1) + 0 = 4 * (k - 1) + 4 by omega]; exact h
theorem hit_at (s : ByteArray) {k j : Nat} (h1 : 1 ≤ k) (hj : j < 4) : hit s (4 * (k - 1) + j) = (may (k : Int) (j : Int) && (iword (k : Int) (j : Int)).toList == s.toList) := by
  unfold hit
  rw [show (4 * (k - 1) + j) / 4 + 1 = k by omega, show (4 * (k - 1) + j) % 4 = j by omega]
theorem rest_step {s : ByteArray} {k j : Nat} (h : Rest s k j) (h1 : 1 ≤ k) (h2 : k ≤ 29) (hj : j < 4) :
    find s = if (may (k : Int) (j : Int) && (iword (k : Int) (j : Int)).toList == s.toList) then ((k : Int), (j : Int)) else findN s (116 - (4 * (k - 1) + (j + 1))) (4 * (k - 1) + (j + 1)) := by
  unfold Rest at h
  rw [← h, show 116 - (4 * (k - 1) + j) = (116 - (4 * (k - 1) + (j + 1))) + 1 by omega, findN, hit_at s h1 hj, show (4 * (k - 1) + j) / 4 + 1 = k by omega, show (4 * (k - 1) + j) % 4 = j by omega]
  rfl
theorem rest_miss {s : ByteArray} {k j : Nat} (h : Rest s k j) (h1 : 1 ≤ k) (h2 : k ≤ 29) (hj : j < 4) (hm : (may (k : Int) (j : Int) && (iword (k : Int) (j : Int)).toList == s.toList) = false) : Rest s k (j + 1) := by
  have := rest_step h h1 h2 hj
  rw [hm] at this
  exact this.symm
theorem rest_hit {s : ByteArray} {k j : Nat} (h : Rest s k j) (h1 : 1 ≤ k) (h2 : k ≤ 29) (hj : j < 4) (hm : may (k : Int) (j : Int) = true) (he : ((iword (k : Int) (j : Int)).toList == s.toList) = true) : find s = ((k : Int), (j : Int)) := by
  have := rest_step h h1 h2 hj
  rw [hm, he] at this
  exact this
theorem rest_end {s : ByteArray} {k : Nat} (h : Rest s k 0) (hk : k = 30) : find s = (0, 0) := by
  subst hk
  exact h.symm
theorem ret_pair {a b c d : Int} {p : Int × Int} (h : p = (c, d)) (ha : a = c) (hb : b = d) : Ending.returned (.tuple #[.int .i64 a, .int .i64 b]) = .returned (.tuple #[.int .i64 p.1, .int .i64 p.2]) := by
  subst h ha hb; rfl
theorem find_empty {s : ByteArray} (h : s.size = 0) : find s = (0, 0) := by
  have : s = ⟨#[]⟩ := by
    cases s with
    | mk d =>
      have : d = #[] := Array.eq_empty_of_size_eq_zero h
      rw [this]
  rw [this]
  decide +kernel
end Go.Proofs.YtfmeadbiokcboaaDoor.L5
namespace Go.Proofs.YtfmeadbiokcboaaDoor
open Go Go.RowKit
open G (Tok Er Ins Fun peek0 peek1 atOf)
def numF (s : List UInt8) : Int × Int := L1.readNum s
def idxF (s : List UInt8) (most : Int) : Option Int := if (L1.indexNum s most).2 = 0 then some (L1.indexNum s most).1 else none
def namF (s : List UInt8) : Bool := L2.nameB s
def shpF (s : List UInt8) : Int := match L3.readS (bs s) with
  | .tuple #[_, .int .i64 c] => c
  | _ => 0
def tksF (op : Int) : Nat := (L5.takes (L5.num op)).length
def fndF (s : List UInt8) : Int × Int := L5.find (bs s)
def mksF (op t : Int) : Int := L5.imakes op t
def prtF (k : Nat) (s : List UInt8) : Bool := decide (G.mark idxF 98 255 s = some (k : Int))
theorem nam_nil : namF [] = false := rfl
theorem num_nil : (numF []).2 ≠ 0 := by decide
theorem shp_nil : shpF [] ≠ 0 := by decide
theorem fnd_nil : (fndF []).1 = 0 := congrArg Prod.fst (L5.find_empty (s := bs []) (by rw [bs_size]; rfl))
/-- What becomes of a word by itself. -/
def Of (r : Option Int) (c p : Int) (w : World) (e : Ending) (w' : World) : Prop :=
  Below w.heap.size w w' ∧ ((∃ x, r = some x ∧ e = .returned (.int .i64 x)) ∨ (r = none ∧ e = thrown c p))
end Go.Proofs.YtfmeadbiokcboaaDoor
namespace Go.Proofs.YtfmeadbiokcboaaDoor
open Go Go.RowKit
open G (Tok Er Ins Fun peek0 peek1 atOf)
theorem below_drewN {B : Nat} {a w : World} (h : Below B a w) (n : Nat) : Below B a (w.drewN n) := ⟨h.1, h.2, h.3, h.4, h.5⟩
/-- Is a type told by a text? -/
def tells (s : List UInt8) (t : Int) : Bool := (L5.letter t).toList == s
end Go.Proofs.YtfmeadbiokcboaaDoor
