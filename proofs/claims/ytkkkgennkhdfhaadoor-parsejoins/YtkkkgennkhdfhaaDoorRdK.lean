/- Each way, by its number; the ways of an operation, one behind the other. -/
import Derived.Test.YtkkkgennkhdfhaaDoorRdJ
namespace Go.Proofs.YtkkkgennkhdfhaaDoor
open Go Go.RowKit
open G (Tok Er Ins Fun peek0 peek1 atOf)

def numberW (E : Int) : Way := fun x l => byWord x setN (G.anyNum numF E l)
def lettersW (E : Int) : Way := fun x l => byWord x setName (G.shaped shpF E l)
def uptoW (E most : Int) : Way := fun x l => byWord x setN (G.number numF E 0 most l)
def calleeW (E : Int) : Way := fun x l => byWord x setName (G.name namF E l)
/-- What the way of a number does. -/
def wayW (E : Int) : Nat → Way
  | 57 => valueW E
  | 58 => labelW E
  | 59 => numberW E
  | 60 => lettersW E
  | 61 => uptoW E 15
  | 62 => morePairsW E
  | 63 => perhapsPointW E
  | 64 => calleeW E
  | 65 => moreValuesW E
  | 66 => uptoW E 1048576
  | 67 => perhapsValueW E
  | 68 => uptoW E 255
  | _ => fun x l => .ok (x, l)
/-- Ways, one behind the other. -/
def runW (E : Int) : List Nat → Way
  | [] => fun x l => .ok (x, l)
  | k :: r => fun x l => G.andThen (wayW E k x l) (runW E r)
theorem keep_bulk {α : Type} {r : Except Er (α × List Tok)} {g : Ins → α → Ins} {x x' : Ins} {l l' : List Tok} (hr : ∀ v l', r = .ok (v, l') → l' <:+ l) (hg : ∀ v, (g x v).2.2.2.2.1 = x.2.2.2.2.1 ∧ (g x v).2.2.2.2.2.1 = x.2.2.2.2.2.1) (h : byWord x g r = .ok (x', l')) : bulk x' l' ≤ bulk x l := by
  obtain ⟨v, h1, rfl⟩ := byWord_ok h
  have := (hr v l' h1).length_le
  unfold bulk
  rw [(hg v).1, (hg v).2]
  omega
theorem moreV_bulk {E : Int} : ∀ (f : Nat) (x x' : Ins) (l l' : List Tok), moreV E f x l = .ok (x', l') → bulk x' l' ≤ bulk x l := by
  intro f
  induction f with
  | zero => intro x x' l l' h; cases h; exact Nat.le_refl _
  | succ f ih =>
    intro x x' l l' h
    cases ht : G.taken l with
    | false => rw [moreV_stop ht] at h; cases h; exact Nat.le_refl _
    | true =>
      cases hv : valueW E x l with
      | error er => rw [moreV_bad ht hv] at h; cases h
      | ok p =>
        obtain ⟨x1, l1⟩ := p
        rw [moreV_go ht hv] at h
        have := ih _ _ _ _ h
        have := valueW_bulk hv
        omega
theorem pairV_bulk {E : Int} : ∀ (f : Nat) (x x' : Ins) (l l' : List Tok), pairV E f x l = .ok (x', l') → bulk x' l' ≤ bulk x l := by
  intro f
  induction f with
  | zero => intro x x' l l' h; cases h; exact Nat.le_refl _
  | succ f ih =>
    intro x x' l l' h
    cases ht : G.paired l with
    | false => rw [pairV_stop ht] at h; cases h; exact Nat.le_refl _
    | true =>
      cases hb : labelW E x l with
      | error er => rw [pairV_badL ht hb] at h; cases h
      | ok p =>
        obtain ⟨x1, l1⟩ := p
        cases hv : valueW E x1 l1 with
        | error er => rw [pairV_badV ht hb hv] at h; cases h
        | ok p =>
          obtain ⟨x2, l2⟩ := p
          rw [pairV_go ht hb hv] at h
          have := ih _ _ _ _ h
          have := labelW_bulk hb
          have := valueW_bulk hv
          omega
theorem wayW_bulk {E : Int} {k : Nat} {x x' : Ins} {l l' : List Tok} (h : wayW E k x l = .ok (x', l')) : bulk x' l' ≤ bulk x l := by
  unfold wayW at h
  split at h
  · exact Nat.le_of_eq (valueW_bulk h).1
  · exact Nat.le_of_eq (labelW_bulk h).1
  · exact keep_bulk (g := setN) (fun v l' h => (G.anyNum_sim (d := 0) (m := []) (E' := E) num_nil l v l' h).1) (fun _ => ⟨rfl, rfl⟩) h
  · exact keep_bulk (g := setName) (fun v l' h => (G.shaped_sim (d := 0) (m := []) (E' := E) shp_nil l v l' h).1) (fun _ => ⟨rfl, rfl⟩) h
  · exact keep_bulk (g := setN) (fun v l' h => (G.number_sim (d := 0) (m := []) (E' := E) num_nil l v l' h).1) (fun _ => ⟨rfl, rfl⟩) h
  · exact pairV_bulk _ _ _ _ _ h
  · unfold perhapsPointW at h
    split at h
    · exact keep_bulk (g := setN) (fun v l' h => (G.index_sim (d := 0) (m := []) (E' := E) l v l' h).1) (fun _ => ⟨rfl, rfl⟩) h
    · cases h; exact Nat.le_refl _
  · exact keep_bulk (g := setName) (fun v l' h => (G.name_sim (d := 0) (m := []) (E' := E) nam_nil l v l' h).1) (fun _ => ⟨rfl, rfl⟩) h
  · exact moreV_bulk _ _ _ _ _ h
  · exact keep_bulk (g := setN) (fun v l' h => (G.number_sim (d := 0) (m := []) (E' := E) num_nil l v l' h).1) (fun _ => ⟨rfl, rfl⟩) h
  · unfold perhapsValueW at h
    split at h
    · exact Nat.le_of_eq (valueW_bulk h).1
    · cases h; exact Nat.le_refl _
  · exact keep_bulk (g := setN) (fun v l' h => (G.number_sim (d := 0) (m := []) (E' := E) num_nil l v l' h).1) (fun _ => ⟨rfl, rfl⟩) h
  · cases h; exact Nat.le_refl _
theorem way_any {B a c : Nat} {L : List Tok} {E : Int} {n : Nat} {l : List Tok} {x : Ins} (k : Nat) (hk : 57 ≤ k ∧ k ≤ 68) (w : World) (h : Rdr B a L E n l w) (hi : InsAt B c x w) (ht : Tabs w) (h2 : 2 ≤ a) (hf : bulk x l ≤ L.length) :
    Calls Tryd.prog k #[.pointer (some ⟨a, 0, none⟩), .pointer (some ⟨c, 0, none⟩)] w (Step B a c L E n (wayW E k x l) w) := by
  have hL := h.suffix.2.1
  have hl1 : x.2.2.2.2.1.length ≤ 131072 := by unfold bulk at hf; omega
  have hl2 : x.2.2.2.2.2.1.length ≤ 131072 := by unfold bulk at hf; omega
  obtain rfl | rfl | rfl | rfl | rfl | rfl | rfl | rfl | rfl | rfl | rfl | rfl : k = 57 ∨ k = 58 ∨ k = 59 ∨ k = 60 ∨ k = 61 ∨ k = 62 ∨ k = 63 ∨ k = 64 ∨ k = 65 ∨ k = 66 ∨ k = 67 ∨ k = 68 := by omega
  · exact value_step w h hi hl1
  · exact label_step w h hi hl2
  · exact number_step w h hi
  · exact letters_step w h hi ht h2
  · exact slot_step w h hi
  · exact morePairs_step w h hi hf
  · exact perhapsPoint_step w h hi
  · exact callee_step w h hi
  · exact moreValues_step w h hi hf
  · exact point_step w h hi
  · exact perhapsValue_step w h hi hf
  · exact trap_step w h hi
theorem operands_any (op : Int) (ho : 1 ≤ op ∧ op ≤ 29) (a : Nat) (w : World) (ht : L5.Tab w) : Calls Tryd.prog 50 #[.pointer (some ⟨a, 0, none⟩), .int .i64 op] w (Row ((waysN op).map (fv a)) w) := by
  obtain rfl | rfl | rfl | rfl | rfl | rfl | rfl | rfl | rfl | rfl | rfl | rfl | rfl | rfl | rfl | rfl | rfl | rfl | rfl | rfl | rfl | rfl | rfl | rfl | rfl | rfl | rfl | rfl | rfl : op = 1 ∨ op = 2 ∨ op = 3 ∨ op = 4 ∨ op = 5 ∨ op = 6 ∨ op = 7 ∨ op = 8 ∨ op = 9 ∨ op = 10 ∨ op = 11 ∨ op = 12 ∨ op = 13 ∨ op = 14 ∨ op = 15 ∨ op = 16 ∨ op = 17 ∨ op = 18 ∨ op = 19 ∨ op = 20 ∨ op = 21 ∨ op = 22 ∨ op = 23 ∨ op = 24 ∨ op = 25 ∨ op = 26 ∨ op = 27 ∨ op = 28 ∨ op = 29 := by omega
  · exact ways_1 a w
  · exact ways_2 a w ht
  · exact ways_3 a w ht
  · exact ways_4 a w ht
  · exact ways_5 a w ht
  · exact ways_6 a w ht
  · exact ways_7 a w ht
  · exact ways_8 a w ht
  · exact ways_9 a w ht
  · exact ways_10 a w
  · exact ways_11 a w
  · exact ways_12 a w
  · exact ways_13 a w
  · exact ways_14 a w
  · exact ways_15 a w
  · exact ways_16 a w ht
  · exact ways_17 a w ht
  · exact ways_18 a w ht
  · exact ways_19 a w ht
  · exact ways_20 a w
  · exact ways_21 a w
  · exact ways_22 a w ht
  · exact ways_23 a w
  · exact ways_24 a w
  · exact ways_25 a w ht
  · exact ways_26 a w
  · exact ways_27 a w
  · exact ways_28 a w
  · exact ways_29 a w
theorem waysN_range (op : Int) (ho : 1 ≤ op ∧ op ≤ 29) : ∀ k ∈ waysN op, 57 ≤ k ∧ k ≤ 68 := by
  obtain rfl | rfl | rfl | rfl | rfl | rfl | rfl | rfl | rfl | rfl | rfl | rfl | rfl | rfl | rfl | rfl | rfl | rfl | rfl | rfl | rfl | rfl | rfl | rfl | rfl | rfl | rfl | rfl | rfl : op = 1 ∨ op = 2 ∨ op = 3 ∨ op = 4 ∨ op = 5 ∨ op = 6 ∨ op = 7 ∨ op = 8 ∨ op = 9 ∨ op = 10 ∨ op = 11 ∨ op = 12 ∨ op = 13 ∨ op = 14 ∨ op = 15 ∨ op = 16 ∨ op = 17 ∨ op = 18 ∨ op = 19 ∨ op = 20 ∨ op = 21 ∨ op = 22 ∨ op = 23 ∨ op = 24 ∨ op = 25 ∨ op = 26 ∨ op = 27 ∨ op = 28 ∨ op = 29 := by omega
  all_goals decide
end Go.Proofs.YtkkkgennkhdfhaaDoor
