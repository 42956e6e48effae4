/- The reference's comparisons of programs, wherever their lists begin: what is alike but for its place is the same. Layer 8, the reference: lists of numbers that are looked at, and which blocks follow one. Layer 8, the reference: which blocks follow one, and which follow each. Layer 8, the reference: lists of lists; which blocks follow each block. Layer 8: whether an operation ends a block, as the program asks it; whether a number is a block's. -/
import Derived.Test.YtfmeadbiokcboaaDoorMsAA
import Derived.Test.YtfmeadbiokcboaaDoorMsAB
import Derived.Test.YtfmeadbiokcboaaDoorMsAG
namespace Go.Proofs.YtfmeadbiokcboaaDoor
open Go Go.RowKit
open G (Tok Er Ins Fun noI noB noF)
set_option maxRecDepth 4000 in
theorem rints_same (l : List Int) (ao bo : Option Addr) (ca cb : Nat) (w : World) (hl : l.length ≤ maxLen) (ha : Sl w ao l) (hb : Sl w bo l) :
    Calls Tryd.prog 17 #[.slice ao l.length ca, .slice bo l.length cb] w fun e w' => e = .returned (.bool true) ∧ Below w.heap.size w w' := by
  unfold maxLen at hl
  have HA := hide ha
  have HB := hide hb
  clear ha hb
  go_enter Tryd.func17, Tryd.ntmps17
  go_wp2
  go_loopw [5] (fun i wr => ∃ k : Nat, k ≤ l.length ∧ i = .int .i64 k ∧ Below w.heap.size w wr) (fun i _ => l.length - (intOf i).toNat)
  case atStart => exact ⟨0, Nat.zero_le _, rfl, Below.refl _ _⟩
  case round =>
    obtain ⟨k, hk, rfl, hB⟩ := hrel
    replace hB := hide hB
    by_cases hlt : k < l.length
    · obtain ⟨n, hn⟩ : ∃ n, l[k]? = some n := ⟨l[k], List.getElem?_eq_getElem hlt⟩
      rcases HA.out with he | ⟨a, oa, rfl, hal, ha⟩
      · subst he; simp at hlt
      rcases HB.out with he | ⟨b, ob, rfl, hbl, hb⟩
      · subst he; simp at hlt
      have hB2 := fun x => below_step hB.out (L5.grewTo_below wr x)
      have c1 := fun x => ((hB2 x).cell (p := ⟨a, oa + k, none⟩) hal).trans (ha k n hn)
      have c2 := fun x => ((hB2 x).cell (p := ⟨b, ob + k, none⟩) hbl).trans (hb k n hn)
      replace hB2 := hide hB2
      clear ha hb hn
      go_wp2
      refine L5.region_grew (by kernel_rfl) (by kernel_rfl) ?_
      repeat (go_big_quiet_step (fail))
      refine wpQuiet_nil ?_
      rintro _ ⟨x, rfl⟩
      go_wp2_with fail
      go_roundw
      case rel => exact ⟨k + 1, by omega, by go_num, hB2.out x⟩
      case measure => simp [intOf]; omega
    · go_wp2
      go_ret
      exact ⟨rfl, hB.out⟩
end Go.Proofs.YtfmeadbiokcboaaDoor
namespace Go.Proofs.YtfmeadbiokcboaaDoor
open Go Go.RowKit
open G (Tok Er Ins Fun)
def hasL (l : List Int) (n : Int) : Bool := l.any fun m => decide (m = n)
theorem hasL_snoc (l : List Int) (m n : Int) : hasL (l ++ [m]) n = (hasL l n || decide (m = n)) := by simp [hasL]
theorem hasL_mem {l : List Int} {n : Int} : hasL l n = true ↔ n ∈ l := by simp [hasL]
theorem take_more {α : Type} {l : List α} {k : Nat} {n : α} (h : l[k]? = some n) : l.take (k + 1) = l.take k ++ [n] := by rw [List.take_add_one, h]; rfl
/-- A list of numbers of one's own while it grows. -/
def Grw (w : World) (l : List Int) (v : Value) (wr : World) : Prop := wr.ownsRow w.heap.size 3 1 v l.length (ints l) ∧ Below w.heap.size w wr
theorem Grw.start (w : World) : Grw w [] (.slice none 0 0) w := ⟨World.ownsRow_nil _ _ _ _, Below.refl _ _⟩
theorem Grw.step {w wr w2 : World} {l : List Int} {v v' : Value} {x : Int} {o : Obj} (h : Grw w l v wr) (own : w2.ownsRow w.heap.size 3 1 v' (l.length + 1) (ints l ++ [.int .i64 x])) (hg : (wr.alloc o).grownBy w2 v.ownBlock) : Grw w (l ++ [x]) v' w2 := by
  refine ⟨by simpa [ints] using own, ?_⟩
  refine Below.grown (h.2.alloc h.2.size o) hg (by simp; have := h.2.size; omega) ?_
  intro k hk
  exact (h.1.lt k hk).1
theorem Grw.slice {w wr : World} {l : List Int} {v : Value} (h : Grw w l v wr) : ∃ ao c, v = .slice ao l.length c ∧ Sl wr ao l ∧ l.length ≤ maxLen := by
  obtain ⟨ao, c, rfl, h1, h2, h3⟩ := ints_of h.1
  exact ⟨ao, c, rfl, h1, Nat.le_trans h2 h3⟩
/-- A number behind a list, where it is none of it. -/
def addL (acc : List Int) (n : Int) : List Int := if hasL acc n then acc else acc ++ [n]
theorem addL_yes {acc : List Int} {n : Int} (h : hasL acc n = true) : addL acc n = acc := by unfold addL; rw [if_pos h]
theorem addL_no {acc : List Int} {n : Int} (h : hasL acc n = false) : addL acc n = acc ++ [n] := by unfold addL; rw [if_neg (by simp [h])]
theorem addL_len (acc : List Int) (n : Int) : (addL acc n).length ≤ acc.length + 1 := by
  unfold addL
  split
  · omega
  · simp
/-- A list's numbers, none twice. -/
def onceL (l : List Int) : List Int := l.foldl addL []
theorem onceL_take {l : List Int} {k : Nat} {n : Int} (h : l[k]? = some n) : onceL (l.take (k + 1)) = addL (onceL (l.take k)) n := by
  rw [take_more h]; simp [onceL]
theorem onceL_len (l : List Int) : (onceL l).length ≤ l.length := by
  have key : ∀ (l acc : List Int), (l.foldl addL acc).length ≤ acc.length + l.length := by
    intro l
    induction l with
    | nil => intro acc; simp
    | cons n l ih =>
      intro acc
      rw [List.foldl_cons, List.length_cons]
      have h1 := ih (addL acc n)
      have h2 := addL_len acc n
      omega
  simpa [onceL] using key l []
end Go.Proofs.YtfmeadbiokcboaaDoor
namespace Go.Proofs.YtfmeadbiokcboaaDoor
open Go Go.RowKit
open G (Tok Er Ins Fun)
/-- The labels of a block's last instruction. -/
def lastTo (b : List Ins) : List Int := match b[b.length - 1]? with
  | some x => x.2.2.2.2.2.1
  | none => []
def nextF (f : Fun) (k : Nat) : List Int := onceL (lastTo (f.2.2.2.1.getD k []))
def succsF (f : Fun) : List (List Int) := f.2.2.2.1.map fun b => onceL (lastTo b)
/-- No block is empty, and none goes to too many. -/
def Ful (f : Fun) : Prop := f.2.2.2.1.length ≤ 1000000 ∧ ∀ b ∈ f.2.2.2.1, b ≠ [] ∧ ∀ x ∈ b, x.2.2.2.2.2.1.length ≤ 1000000
theorem nextF_at {f : Fun} {k : Nat} {b : List Ins} (h : f.2.2.2.1[k]? = some b) : nextF f k = onceL (lastTo b) := by
  unfold nextF; rw [List.getD_eq_getElem?_getD, h]; rfl
theorem Ful.last {f : Fun} (h : Ful f) {b : List Ins} (hb : b ∈ f.2.2.2.1) : ∃ x, b[b.length - 1]? = some x ∧ lastTo b = x.2.2.2.2.2.1 ∧ x.2.2.2.2.2.1.length ≤ 1000000 := by
  obtain ⟨h1, h2⟩ := h.2 b hb
  have : b.length - 1 < b.length := by
    have : b.length ≠ 0 := fun e => h1 (List.length_eq_zero_iff.1 e)
    omega
  refine ⟨b[b.length - 1], List.getElem?_eq_getElem this, ?_, h2 _ (List.getElem_mem this)⟩
  unfold lastTo
  rw [List.getElem?_eq_getElem this]
end Go.Proofs.YtfmeadbiokcboaaDoor
namespace Go.Proofs.YtfmeadbiokcboaaDoor
open Go Go.RowKit
open G (Tok Er Ins Fun)
theorem Tryd.info22 : (Tryd.prog.info? 22).map (fun i => (i.zero, i.size, i.bytes)) = some (some (.slice none 0 0), 1, 24) := by kernel_rfl
/-- Lists of numbers in a list of one's own. -/
def RowsO (B : Nat) (w : World) (ll : List (List Int)) (v : Value) : Prop := ∃ us : List Value, w.ownsRow B 22 1 v ll.length us ∧ us.length = ll.length ∧ ∀ (i : Nat) (l : List Int), ll[i]? = some l → ∃ u, us[i]? = some u ∧ w.ownsRow B 3 1 u l.length (ints l)
theorem RowsO.nil (B : Nat) (w : World) : RowsO B w [] (.slice none 0 0) := ⟨[], World.ownsRow_nil _ _ _ _, rfl, fun i l h => by simp at h⟩
theorem RowsO.below {B : Nat} {w w' : World} {ll : List (List Int)} {v : Value} (h : RowsO B w ll v) (b : Below w.heap.size w w') : RowsO B w' ll v := by
  obtain ⟨us, h1, h2, h3⟩ := h
  refine ⟨us, own_below b B _ _ _ _ _ h1, h2, fun i l hl => ?_⟩
  obtain ⟨u, k1, k2⟩ := h3 i l hl
  exact ⟨u, k1, own_below b B _ _ _ _ _ k2⟩
theorem RowsO.base {B B' : Nat} {w : World} {ll : List (List Int)} {v : Value} (h : RowsO B w ll v) (hB : B' ≤ B) : RowsO B' w ll v := by
  obtain ⟨us, h1, h2, h3⟩ := h
  refine ⟨us, own_base h1 hB, h2, fun i l hl => ?_⟩
  obtain ⟨u, k1, k2⟩ := h3 i l hl
  exact ⟨u, k1, own_base k2 hB⟩
theorem RowsO.len {B : Nat} {w : World} {ll : List (List Int)} {v : Value} (h : RowsO B w ll v) : ∃ ao c, v = .slice ao ll.length c := by
  obtain ⟨us, h1, _⟩ := h
  exact own_len h1
theorem RowsO.step {B : Nat} {wr w2 : World} {ll : List (List Int)} {l : List Int} {v v' u : Value} {us : List Value} {o : Obj} (h1 : wr.ownsRow B 22 1 v ll.length us)
    (h : us.length = ll.length ∧ ∀ (i : Nat) (l : List Int), ll[i]? = some l → ∃ u, us[i]? = some u ∧ wr.ownsRow B 3 1 u l.length (ints l)) (hu : wr.ownsRow B 3 1 u l.length (ints l))
    (own : w2.ownsRow B 22 1 v' (ll.length + 1) (us ++ [u])) (hg : (wr.alloc o).grownBy w2 v.ownBlock) : RowsO B w2 (ll ++ [l]) v' := by
  obtain ⟨h2, h3⟩ := h
  refine ⟨us ++ [u], by simpa using own, by simp [h2], fun i m hm => ?_⟩
  have other : ∀ (x : Value) (n : Nat) (xs : List Value), wr.ownsRow B 3 1 x n xs → w2.ownsRow B 3 1 x n xs := fun x n xs hx => own_other hg (h1.alloc o) (by decide) x n xs (hx.alloc o)
  by_cases hi : i < ll.length
  · rw [List.getElem?_append_left hi] at hm
    obtain ⟨y, k1, k2⟩ := h3 i m hm
    exact ⟨y, by rw [List.getElem?_append_left (by omega)]; exact k1, other _ _ _ k2⟩
  · rw [List.getElem?_append_right (by omega)] at hm
    have hi2 : i - ll.length = 0 := by
      have := (List.getElem?_eq_some_iff.1 hm).1
      simp at this
      omega
    rw [hi2] at hm
    simp at hm
    subst hm
    exact ⟨u, by rw [List.getElem?_append_right (by omega), h2, hi2]; rfl, other _ _ _ hu⟩
end Go.Proofs.YtfmeadbiokcboaaDoor
namespace Go.Proofs.YtfmeadbiokcboaaDoor
open Go Go.RowKit
open L5 (word tk0 tk1 mk ds num beside num_out beside_list)
/-- What the table's row holds, as a value. -/
def rowVal (k : Nat) : Value := .agg #[.string (word k), .int .i64 (tk0 k), .int .i64 (tk1 k), .int .i64 (mk k), .int .i64 (ds k)]
/-- The table of the operations reads as it was laid. -/
def Tab (w : World) : Prop := 0 < w.heap.size ∧ ∀ k, k < 30 →
  w.cell? ⟨0, k * 5, none⟩ = some (.string (word k)) ∧ w.cell? ⟨0, k * 5 + 1, none⟩ = some (.int .i64 (tk0 k)) ∧ w.cell? ⟨0, k * 5 + 2, none⟩ = some (.int .i64 (tk1 k)) ∧ w.cell? ⟨0, k * 5 + 3, none⟩ = some (.int .i64 (mk k)) ∧ w.cell? ⟨0, k * 5 + 4, none⟩ = some (.int .i64 (ds k))
theorem Tab.below {w w' : World} (h : Tab w) (b : Below w.heap.size w w') : Tab w' :=
  ⟨Nat.lt_of_lt_of_le h.1 b.size, fun k hk => by
    obtain ⟨h0, h1, h2, h3, h4⟩ := h.2 k hk
    exact ⟨(b.cell h.1).trans h0, (b.cell h.1).trans h1, (b.cell h.1).trans h2, (b.cell h.1).trans h3, (b.cell h.1).trans h4⟩⟩
theorem of_in (k : Nat) (w : World) (h0 : 1 ≤ k) (h1 : k ≤ 29) (ht : Tab w) :
    Calls Tryd.prog 55 #[.int .i64 k] w fun e w' => e = .returned (rowVal k) ∧ Below w.heap.size w w' := by
  have T := ht.below (below_box w (.cells #[.string ⟨#[]⟩, .int .i64 0, .int .i64 0, .int .i64 0, .int .i64 0] 85))
  obtain ⟨c0, c1, c2, c3, c4⟩ := T.2 k (by omega)
  clear T ht
  go_enter Tryd.func55, Tryd.ntmps55
  go_wp2_with fail
  exact bodyPost_ret (v := rowVal k) (by simp [results, Tryd.results55, go_sem, rowVal]) rfl ⟨rfl, below_box _ _⟩
theorem of_out (op : Int) (w : World) (h : ¬ (1 ≤ op ∧ op ≤ 29)) (ht : Tab w) :
    Calls Tryd.prog 55 #[.int .i64 op] w fun e w' => e = .returned (rowVal 0) ∧ Below w.heap.size w w' := by
  have T := ht.below (below_box w (.cells #[.string ⟨#[]⟩, .int .i64 0, .int .i64 0, .int .i64 0, .int .i64 0] 85))
  obtain ⟨c0, c1, c2, c3, c4⟩ := T.2 0 (by omega)
  simp only [Nat.zero_mul, Nat.zero_add] at c0 c1 c2 c3 c4
  clear T ht
  by_cases h1 : op < 1
  all_goals
    go_enter Tryd.func55, Tryd.ntmps55
    go_wp2_with fail
    exact bodyPost_ret (v := rowVal 0) (by simp [results, Tryd.results55, go_sem, rowVal]) rfl ⟨rfl, below_box _ _⟩
theorem of_any (op : Int) (w : World) (ht : Tab w) :
    Calls Tryd.prog 55 #[.int .i64 op] w fun e w' => e = .returned (rowVal (num op)) ∧ Below w.heap.size w w' := by
  by_cases h : 1 ≤ op ∧ op ≤ 29
  · have e : op = (op.toNat : Int) := by omega
    have := of_in op.toNat w (by omega) (by omega) ht
    rw [← e] at this
    rwa [show num op = op.toNat from if_pos h]
  · rw [num_out h]; exact of_out op w h ht
set_option maxRecDepth 20000 in
theorem field_does (a b c d e : Value) (w : World) : Sem.run Tryd.prog (Instr.field 85 (.agg #[a, b, c, d, e]) 3) w = .ok e w := rfl
theorem does_any (op things : Int) (w : World) (ht : Tab w) :
    Calls Tryd.prog 46 #[.int .i64 op, .int .i64 things] w fun e w' => e = .returned (.bool (beside (num op) things)) ∧ Below w.heap.size w w' := by
  have hf := field_does
  go_enter Tryd.func46, Tryd.ntmps46
  go_wp2_with fail
  refine (of_any op _ ht).mono ?_; rintro e w1 ⟨rfl, b1⟩
  unfold rowVal
  go_wp2_with fail
  go_ret
  exact ⟨rfl, b1⟩
/-- Does an operation end a block? -/
def endsB (op : Int) : Bool := decide (26 ≤ op ∧ op ≤ 29)
theorem ends_l (op : Int) : ([26, 27, 28, 29] : List Int).contains op = beside (num op) 8 := beside_list (by decide +kernel) (by decide) op
theorem ends_b (op : Int) : beside (num op) 8 = endsB op := by
  rw [← ends_l, Bool.eq_iff_iff]
  simp [endsB]
  omega
theorem ends_any (op : Int) (w : World) (ht : Tab w) : Calls Tryd.prog 39 #[.int .i64 op] w fun e w' => e = .returned (.bool (endsB op)) ∧ Below w.heap.size w w' := by
  rw [← ends_b]
  go_enter Tryd.func39, Tryd.ntmps39
  go_wp2_with fail
  refine (does_any op 8 _ ht).mono ?_; rintro e w1 ⟨rfl, b1⟩
  go_wp2_with fail
  go_ret
  exact ⟨rfl, b1⟩
/-- Is a number that of one of so many blocks? -/
def thereB (b : Int) (n : Nat) : Bool := decide (0 ≤ b ∧ b < (n : Int))
theorem there_any (b : Int) (n : Nat) (w : World) : Calls Tryd.prog 31 #[.int .i64 b, .int .i64 n] w fun e w' => e = .returned (.bool (thereB b n)) ∧ w' = w := by
  by_cases h : 0 ≤ b
  · have HE : Hid (decide (b < (n : Int)) = thereB b n) := hide (by simp [thereB, h])
    have h2 : decide (0 ≤ b) = true := by simpa using h
    go_enter Tryd.func31, Tryd.ntmps31
    go_wp2
    go_ret
    exact ⟨L5.ret_bool HE.out, rfl⟩
  · have HE : Hid (false = thereB b n) := hide (by simp [thereB, h])
    have h2 : decide (0 ≤ b) = false := by simpa using h
    go_enter Tryd.func31, Tryd.ntmps31
    go_wp2
    go_ret
    exact ⟨L5.ret_bool HE.out, rfl⟩
end Go.Proofs.YtfmeadbiokcboaaDoor
