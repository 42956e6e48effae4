/- The ways to read the operands of each operation. -/
import Derived.Test.YtkkkgennkhdfhaaDoorRdI
namespace Go.Proofs.YtkkkgennkhdfhaaDoor
open Go Go.RowKit
open G (Tok Er Ins Fun peek0 peek1 atOf)

/-- A way of the reader at block a. -/
def fv (a k : Nat) : Value := .func (Fn.func k) #[.pointer (some ⟨a, 0, none⟩)] #[]
/-- Which ways there are, by the operation. -/
def waysN : Int → List Nat
  | 1 => [59]
  | 2 => [57, 57]
  | 3 => [57, 57]
  | 4 => [57, 57]
  | 5 => [57, 57]
  | 6 => [57, 57]
  | 7 => [57, 57]
  | 8 => []
  | 9 => [57, 57]
  | 10 => [60]
  | 11 => [57, 61]
  | 12 => [57, 61]
  | 13 => [57, 61, 57]
  | 14 => [57, 61, 57]
  | 15 => [57, 61]
  | 16 => [57]
  | 17 => [57]
  | 18 => [57, 57]
  | 19 => [57, 57]
  | 20 => [58, 57, 62]
  | 21 => [63, 64, 65]
  | 22 => [57]
  | 23 => [66]
  | 24 => [57, 66]
  | 25 => [57]
  | 26 => [58]
  | 27 => [57, 58, 58]
  | 28 => [67]
  | 29 => [68]
  | _ => []
theorem row_new {w : World} {fs : List Value} (h : fs.length ≤ 8) : Row fs w (.returned (.slice (some ⟨w.heap.size, 0, none⟩) fs.length fs.length)) (w.alloc (.cells fs.toArray 80)) :=
  ⟨below_box _ _, w.heap.size, fs.length, fs.toArray, (0, 0), rfl, Nat.le_refl _, h, Nat.le_refl _, heap_alloc_new w _, fun k f hk => by simpa using hk⟩
theorem Row.later {fs : List Value} {u w : World} {e : Ending} {w' : World} (h : Row fs w e w') (b : Below u.heap.size u w) : Row fs u e w' := by
  obtain ⟨h1, g, cap, cs, fz, h2, h3, h4, h5, h6⟩ := h
  exact ⟨b.trans (h1.mono b.size), g, cap, cs, fz, h2, h3, h4, Nat.le_trans b.size h5, h6⟩
theorem ways_1 (a : Nat) (w : World) : Calls Tryd.prog 50 #[.pointer (some ⟨a, 0, none⟩), .int .i64 1] w (Row ((waysN 1).map (fv a)) w) := by
  have hmf : ∀ (fn : Fn) (first cap : Array Value) (w : World), (Instr.makeFunc fn first cap).run Tryd.prog w = .ok (.func fn first cap) w := fun _ _ _ _ => rfl
  have HR := hide (row_new (w := w) (fs := (waysN 1).map (fv a)) (by rw [List.length_map]; decide))
  go_enter Tryd.func50, Tryd.ntmps50
  go_wp2_with fail
  go_ret
  exact HR.out
theorem ways_10 (a : Nat) (w : World) : Calls Tryd.prog 50 #[.pointer (some ⟨a, 0, none⟩), .int .i64 10] w (Row ((waysN 10).map (fv a)) w) := by
  have hmf : ∀ (fn : Fn) (first cap : Array Value) (w : World), (Instr.makeFunc fn first cap).run Tryd.prog w = .ok (.func fn first cap) w := fun _ _ _ _ => rfl
  have HR := hide (row_new (w := w) (fs := (waysN 10).map (fv a)) (by rw [List.length_map]; decide))
  go_enter Tryd.func50, Tryd.ntmps50
  go_wp2_with fail
  go_ret
  exact HR.out
theorem ways_11 (a : Nat) (w : World) : Calls Tryd.prog 50 #[.pointer (some ⟨a, 0, none⟩), .int .i64 11] w (Row ((waysN 11).map (fv a)) w) := by
  have hmf : ∀ (fn : Fn) (first cap : Array Value) (w : World), (Instr.makeFunc fn first cap).run Tryd.prog w = .ok (.func fn first cap) w := fun _ _ _ _ => rfl
  have HR := hide (row_new (w := w) (fs := (waysN 11).map (fv a)) (by rw [List.length_map]; decide))
  go_enter Tryd.func50, Tryd.ntmps50
  go_wp2_with fail
  go_ret
  exact HR.out
theorem ways_12 (a : Nat) (w : World) : Calls Tryd.prog 50 #[.pointer (some ⟨a, 0, none⟩), .int .i64 12] w (Row ((waysN 12).map (fv a)) w) := by
  have hmf : ∀ (fn : Fn) (first cap : Array Value) (w : World), (Instr.makeFunc fn first cap).run Tryd.prog w = .ok (.func fn first cap) w := fun _ _ _ _ => rfl
  have HR := hide (row_new (w := w) (fs := (waysN 12).map (fv a)) (by rw [List.length_map]; decide))
  go_enter Tryd.func50, Tryd.ntmps50
  go_wp2_with fail
  go_ret
  exact HR.out
theorem ways_13 (a : Nat) (w : World) : Calls Tryd.prog 50 #[.pointer (some ⟨a, 0, none⟩), .int .i64 13] w (Row ((waysN 13).map (fv a)) w) := by
  have hmf : ∀ (fn : Fn) (first cap : Array Value) (w : World), (Instr.makeFunc fn first cap).run Tryd.prog w = .ok (.func fn first cap) w := fun _ _ _ _ => rfl
  have HR := hide (row_new (w := w) (fs := (waysN 13).map (fv a)) (by rw [List.length_map]; decide))
  go_enter Tryd.func50, Tryd.ntmps50
  go_wp2_with fail
  go_ret
  exact HR.out
theorem ways_14 (a : Nat) (w : World) : Calls Tryd.prog 50 #[.pointer (some ⟨a, 0, none⟩), .int .i64 14] w (Row ((waysN 14).map (fv a)) w) := by
  have hmf : ∀ (fn : Fn) (first cap : Array Value) (w : World), (Instr.makeFunc fn first cap).run Tryd.prog w = .ok (.func fn first cap) w := fun _ _ _ _ => rfl
  have HR := hide (row_new (w := w) (fs := (waysN 14).map (fv a)) (by rw [List.length_map]; decide))
  go_enter Tryd.func50, Tryd.ntmps50
  go_wp2_with fail
  go_ret
  exact HR.out
theorem ways_15 (a : Nat) (w : World) : Calls Tryd.prog 50 #[.pointer (some ⟨a, 0, none⟩), .int .i64 15] w (Row ((waysN 15).map (fv a)) w) := by
  have hmf : ∀ (fn : Fn) (first cap : Array Value) (w : World), (Instr.makeFunc fn first cap).run Tryd.prog w = .ok (.func fn first cap) w := fun _ _ _ _ => rfl
  have HR := hide (row_new (w := w) (fs := (waysN 15).map (fv a)) (by rw [List.length_map]; decide))
  go_enter Tryd.func50, Tryd.ntmps50
  go_wp2_with fail
  go_ret
  exact HR.out
theorem ways_20 (a : Nat) (w : World) : Calls Tryd.prog 50 #[.pointer (some ⟨a, 0, none⟩), .int .i64 20] w (Row ((waysN 20).map (fv a)) w) := by
  have hmf : ∀ (fn : Fn) (first cap : Array Value) (w : World), (Instr.makeFunc fn first cap).run Tryd.prog w = .ok (.func fn first cap) w := fun _ _ _ _ => rfl
  have HR := hide (row_new (w := w) (fs := (waysN 20).map (fv a)) (by rw [List.length_map]; decide))
  go_enter Tryd.func50, Tryd.ntmps50
  go_wp2_with fail
  go_ret
  exact HR.out
theorem ways_21 (a : Nat) (w : World) : Calls Tryd.prog 50 #[.pointer (some ⟨a, 0, none⟩), .int .i64 21] w (Row ((waysN 21).map (fv a)) w) := by
  have hmf : ∀ (fn : Fn) (first cap : Array Value) (w : World), (Instr.makeFunc fn first cap).run Tryd.prog w = .ok (.func fn first cap) w := fun _ _ _ _ => rfl
  have HR := hide (row_new (w := w) (fs := (waysN 21).map (fv a)) (by rw [List.length_map]; decide))
  go_enter Tryd.func50, Tryd.ntmps50
  go_wp2_with fail
  go_ret
  exact HR.out
theorem ways_23 (a : Nat) (w : World) : Calls Tryd.prog 50 #[.pointer (some ⟨a, 0, none⟩), .int .i64 23] w (Row ((waysN 23).map (fv a)) w) := by
  have hmf : ∀ (fn : Fn) (first cap : Array Value) (w : World), (Instr.makeFunc fn first cap).run Tryd.prog w = .ok (.func fn first cap) w := fun _ _ _ _ => rfl
  have HR := hide (row_new (w := w) (fs := (waysN 23).map (fv a)) (by rw [List.length_map]; decide))
  go_enter Tryd.func50, Tryd.ntmps50
  go_wp2_with fail
  go_ret
  exact HR.out
theorem ways_24 (a : Nat) (w : World) : Calls Tryd.prog 50 #[.pointer (some ⟨a, 0, none⟩), .int .i64 24] w (Row ((waysN 24).map (fv a)) w) := by
  have hmf : ∀ (fn : Fn) (first cap : Array Value) (w : World), (Instr.makeFunc fn first cap).run Tryd.prog w = .ok (.func fn first cap) w := fun _ _ _ _ => rfl
  have HR := hide (row_new (w := w) (fs := (waysN 24).map (fv a)) (by rw [List.length_map]; decide))
  go_enter Tryd.func50, Tryd.ntmps50
  go_wp2_with fail
  go_ret
  exact HR.out
theorem ways_26 (a : Nat) (w : World) : Calls Tryd.prog 50 #[.pointer (some ⟨a, 0, none⟩), .int .i64 26] w (Row ((waysN 26).map (fv a)) w) := by
  have hmf : ∀ (fn : Fn) (first cap : Array Value) (w : World), (Instr.makeFunc fn first cap).run Tryd.prog w = .ok (.func fn first cap) w := fun _ _ _ _ => rfl
  have HR := hide (row_new (w := w) (fs := (waysN 26).map (fv a)) (by rw [List.length_map]; decide))
  go_enter Tryd.func50, Tryd.ntmps50
  go_wp2_with fail
  go_ret
  exact HR.out
theorem ways_27 (a : Nat) (w : World) : Calls Tryd.prog 50 #[.pointer (some ⟨a, 0, none⟩), .int .i64 27] w (Row ((waysN 27).map (fv a)) w) := by
  have hmf : ∀ (fn : Fn) (first cap : Array Value) (w : World), (Instr.makeFunc fn first cap).run Tryd.prog w = .ok (.func fn first cap) w := fun _ _ _ _ => rfl
  have HR := hide (row_new (w := w) (fs := (waysN 27).map (fv a)) (by rw [List.length_map]; decide))
  go_enter Tryd.func50, Tryd.ntmps50
  go_wp2_with fail
  go_ret
  exact HR.out
theorem ways_28 (a : Nat) (w : World) : Calls Tryd.prog 50 #[.pointer (some ⟨a, 0, none⟩), .int .i64 28] w (Row ((waysN 28).map (fv a)) w) := by
  have hmf : ∀ (fn : Fn) (first cap : Array Value) (w : World), (Instr.makeFunc fn first cap).run Tryd.prog w = .ok (.func fn first cap) w := fun _ _ _ _ => rfl
  have HR := hide (row_new (w := w) (fs := (waysN 28).map (fv a)) (by rw [List.length_map]; decide))
  go_enter Tryd.func50, Tryd.ntmps50
  go_wp2_with fail
  go_ret
  exact HR.out
theorem ways_29 (a : Nat) (w : World) : Calls Tryd.prog 50 #[.pointer (some ⟨a, 0, none⟩), .int .i64 29] w (Row ((waysN 29).map (fv a)) w) := by
  have hmf : ∀ (fn : Fn) (first cap : Array Value) (w : World), (Instr.makeFunc fn first cap).run Tryd.prog w = .ok (.func fn first cap) w := fun _ _ _ _ => rfl
  have HR := hide (row_new (w := w) (fs := (waysN 29).map (fv a)) (by rw [List.length_map]; decide))
  go_enter Tryd.func50, Tryd.ntmps50
  go_wp2_with fail
  go_ret
  exact HR.out
theorem ways_2 (a : Nat) (w : World) (ht : L5.Tab w) : Calls Tryd.prog 50 #[.pointer (some ⟨a, 0, none⟩), .int .i64 2] w (Row ((waysN 2).map (fv a)) w) := by
  have hmf : ∀ (fn : Fn) (first cap : Array Value) (w : World), (Instr.makeFunc fn first cap).run Tryd.prog w = .ok (.func fn first cap) w := fun _ _ _ _ => rfl
  have T := hide (ht.below (below_box w (.cells #[fv a 57] 80)))
  have HC : Hid ((w.alloc (.cells #[fv a 57] 80)).cell? ⟨w.heap.size, 0, none⟩ = some (fv a 57)) := hide (by simp [go_sem])
  have HB := hide (below_box w (.cells #[fv a 57] 80))
  have HL : Hid ((L5.takes (L5.num 2)).length = 2) := hide (by decide)
  have hz : w.heap.size < (w.alloc (.cells #[fv a 57] 80)).heap.size := by simp
  clear ht
  go_enter Tryd.func50, Tryd.ntmps50
  go_wp2_with fail
  show Calls _ _ _ (w.alloc (.cells #[fv a 57] 80)) _
  generalize w.alloc (.cells #[fv a 57] 80) = W at *
  refine (L5.takes_any 2 _ T.out).mono ?_; rintro e w1 ⟨ao, cap, rfl, hS, b1⟩
  rw [HL.out]
  clear hS
  have HC1 := (b1.cell (p := ⟨w.heap.size, 0, none⟩) hz).trans HC.out
  go_wp2_with fail
  refine (repeat_2 _ (fv a 57) _ HC1 rfl).mono ?_; rintro e w2 ⟨b2, g, cp, cs, fz, rfl, h3, h4, h5, h6, h7⟩
  replace h6 := hide h6
  go_wp2_with fail
  go_ret
  exact ⟨below_step (below_step HB.out b1) b2, g, cp, cs, fz, rfl, h3, h4, Nat.le_trans HB.out.size (Nat.le_trans b1.size h5), h6.out, h7⟩
theorem ways_3 (a : Nat) (w : World) (ht : L5.Tab w) : Calls Tryd.prog 50 #[.pointer (some ⟨a, 0, none⟩), .int .i64 3] w (Row ((waysN 3).map (fv a)) w) := by
  have hmf : ∀ (fn : Fn) (first cap : Array Value) (w : World), (Instr.makeFunc fn first cap).run Tryd.prog w = .ok (.func fn first cap) w := fun _ _ _ _ => rfl
  have T := hide (ht.below (below_box w (.cells #[fv a 57] 80)))
  have HC : Hid ((w.alloc (.cells #[fv a 57] 80)).cell? ⟨w.heap.size, 0, none⟩ = some (fv a 57)) := hide (by simp [go_sem])
  have HB := hide (below_box w (.cells #[fv a 57] 80))
  have HL : Hid ((L5.takes (L5.num 3)).length = 2) := hide (by decide)
  have hz : w.heap.size < (w.alloc (.cells #[fv a 57] 80)).heap.size := by simp
  clear ht
  go_enter Tryd.func50, Tryd.ntmps50
  go_wp2_with fail
  show Calls _ _ _ (w.alloc (.cells #[fv a 57] 80)) _
  generalize w.alloc (.cells #[fv a 57] 80) = W at *
  refine (L5.takes_any 3 _ T.out).mono ?_; rintro e w1 ⟨ao, cap, rfl, hS, b1⟩
  rw [HL.out]
  clear hS
  have HC1 := (b1.cell (p := ⟨w.heap.size, 0, none⟩) hz).trans HC.out
  go_wp2_with fail
  refine (repeat_2 _ (fv a 57) _ HC1 rfl).mono ?_; rintro e w2 ⟨b2, g, cp, cs, fz, rfl, h3, h4, h5, h6, h7⟩
  replace h6 := hide h6
  go_wp2_with fail
  go_ret
  exact ⟨below_step (below_step HB.out b1) b2, g, cp, cs, fz, rfl, h3, h4, Nat.le_trans HB.out.size (Nat.le_trans b1.size h5), h6.out, h7⟩
theorem ways_4 (a : Nat) (w : World) (ht : L5.Tab w) : Calls Tryd.prog 50 #[.pointer (some ⟨a, 0, none⟩), .int .i64 4] w (Row ((waysN 4).map (fv a)) w) := by
  have hmf : ∀ (fn : Fn) (first cap : Array Value) (w : World), (Instr.makeFunc fn first cap).run Tryd.prog w = .ok (.func fn first cap) w := fun _ _ _ _ => rfl
  have T := hide (ht.below (below_box w (.cells #[fv a 57] 80)))
  have HC : Hid ((w.alloc (.cells #[fv a 57] 80)).cell? ⟨w.heap.size, 0, none⟩ = some (fv a 57)) := hide (by simp [go_sem])
  have HB := hide (below_box w (.cells #[fv a 57] 80))
  have HL : Hid ((L5.takes (L5.num 4)).length = 2) := hide (by decide)
  have hz : w.heap.size < (w.alloc (.cells #[fv a 57] 80)).heap.size := by simp
  clear ht
  go_enter Tryd.func50, Tryd.ntmps50
  go_wp2_with fail
  show Calls _ _ _ (w.alloc (.cells #[fv a 57] 80)) _
  generalize w.alloc (.cells #[fv a 57] 80) = W at *
  refine (L5.takes_any 4 _ T.out).mono ?_; rintro e w1 ⟨ao, cap, rfl, hS, b1⟩
  rw [HL.out]
  clear hS
  have HC1 := (b1.cell (p := ⟨w.heap.size, 0, none⟩) hz).trans HC.out
  go_wp2_with fail
  refine (repeat_2 _ (fv a 57) _ HC1 rfl).mono ?_; rintro e w2 ⟨b2, g, cp, cs, fz, rfl, h3, h4, h5, h6, h7⟩
  replace h6 := hide h6
  go_wp2_with fail
  go_ret
  exact ⟨below_step (below_step HB.out b1) b2, g, cp, cs, fz, rfl, h3, h4, Nat.le_trans HB.out.size (Nat.le_trans b1.size h5), h6.out, h7⟩
theorem ways_5 (a : Nat) (w : World) (ht : L5.Tab w) : Calls Tryd.prog 50 #[.pointer (some ⟨a, 0, none⟩), .int .i64 5] w (Row ((waysN 5).map (fv a)) w) := by
  have hmf : ∀ (fn : Fn) (first cap : Array Value) (w : World), (Instr.makeFunc fn first cap).run Tryd.prog w = .ok (.func fn first cap) w := fun _ _ _ _ => rfl
  have T := hide (ht.below (below_box w (.cells #[fv a 57] 80)))
  have HC : Hid ((w.alloc (.cells #[fv a 57] 80)).cell? ⟨w.heap.size, 0, none⟩ = some (fv a 57)) := hide (by simp [go_sem])
  have HB := hide (below_box w (.cells #[fv a 57] 80))
  have HL : Hid ((L5.takes (L5.num 5)).length = 2) := hide (by decide)
  have hz : w.heap.size < (w.alloc (.cells #[fv a 57] 80)).heap.size := by simp
  clear ht
  go_enter Tryd.func50, Tryd.ntmps50
  go_wp2_with fail
  show Calls _ _ _ (w.alloc (.cells #[fv a 57] 80)) _
  generalize w.alloc (.cells #[fv a 57] 80) = W at *
  refine (L5.takes_any 5 _ T.out).mono ?_; rintro e w1 ⟨ao, cap, rfl, hS, b1⟩
  rw [HL.out]
  clear hS
  have HC1 := (b1.cell (p := ⟨w.heap.size, 0, none⟩) hz).trans HC.out
  go_wp2_with fail
  refine (repeat_2 _ (fv a 57) _ HC1 rfl).mono ?_; rintro e w2 ⟨b2, g, cp, cs, fz, rfl, h3, h4, h5, h6, h7⟩
  replace h6 := hide h6
  go_wp2_with fail
  go_ret
  exact ⟨below_step (below_step HB.out b1) b2, g, cp, cs, fz, rfl, h3, h4, Nat.le_trans HB.out.size (Nat.le_trans b1.size h5), h6.out, h7⟩
theorem ways_6 (a : Nat) (w : World) (ht : L5.Tab w) : Calls Tryd.prog 50 #[.pointer (some ⟨a, 0, none⟩), .int .i64 6] w (Row ((waysN 6).map (fv a)) w) := by
  have hmf : ∀ (fn : Fn) (first cap : Array Value) (w : World), (Instr.makeFunc fn first cap).run Tryd.prog w = .ok (.func fn first cap) w := fun _ _ _ _ => rfl
  have T := hide (ht.below (below_box w (.cells #[fv a 57] 80)))
  have HC : Hid ((w.alloc (.cells #[fv a 57] 80)).cell? ⟨w.heap.size, 0, none⟩ = some (fv a 57)) := hide (by simp [go_sem])
  have HB := hide (below_box w (.cells #[fv a 57] 80))
  have HL : Hid ((L5.takes (L5.num 6)).length = 2) := hide (by decide)
  have hz : w.heap.size < (w.alloc (.cells #[fv a 57] 80)).heap.size := by simp
  clear ht
  go_enter Tryd.func50, Tryd.ntmps50
  go_wp2_with fail
  show Calls _ _ _ (w.alloc (.cells #[fv a 57] 80)) _
  generalize w.alloc (.cells #[fv a 57] 80) = W at *
  refine (L5.takes_any 6 _ T.out).mono ?_; rintro e w1 ⟨ao, cap, rfl, hS, b1⟩
  rw [HL.out]
  clear hS
  have HC1 := (b1.cell (p := ⟨w.heap.size, 0, none⟩) hz).trans HC.out
  go_wp2_with fail
  refine (repeat_2 _ (fv a 57) _ HC1 rfl).mono ?_; rintro e w2 ⟨b2, g, cp, cs, fz, rfl, h3, h4, h5, h6, h7⟩
  replace h6 := hide h6
  go_wp2_with fail
  go_ret
  exact ⟨below_step (below_step HB.out b1) b2, g, cp, cs, fz, rfl, h3, h4, Nat.le_trans HB.out.size (Nat.le_trans b1.size h5), h6.out, h7⟩
theorem ways_7 (a : Nat) (w : World) (ht : L5.Tab w) : Calls Tryd.prog 50 #[.pointer (some ⟨a, 0, none⟩), .int .i64 7] w (Row ((waysN 7).map (fv a)) w) := by
  have hmf : ∀ (fn : Fn) (first cap : Array Value) (w : World), (Instr.makeFunc fn first cap).run Tryd.prog w = .ok (.func fn first cap) w := fun _ _ _ _ => rfl
  have T := hide (ht.below (below_box w (.cells #[fv a 57] 80)))
  have HC : Hid ((w.alloc (.cells #[fv a 57] 80)).cell? ⟨w.heap.size, 0, none⟩ = some (fv a 57)) := hide (by simp [go_sem])
  have HB := hide (below_box w (.cells #[fv a 57] 80))
  have HL : Hid ((L5.takes (L5.num 7)).length = 2) := hide (by decide)
  have hz : w.heap.size < (w.alloc (.cells #[fv a 57] 80)).heap.size := by simp
  clear ht
  go_enter Tryd.func50, Tryd.ntmps50
  go_wp2_with fail
  show Calls _ _ _ (w.alloc (.cells #[fv a 57] 80)) _
  generalize w.alloc (.cells #[fv a 57] 80) = W at *
  refine (L5.takes_any 7 _ T.out).mono ?_; rintro e w1 ⟨ao, cap, rfl, hS, b1⟩
  rw [HL.out]
  clear hS
  have HC1 := (b1.cell (p := ⟨w.heap.size, 0, none⟩) hz).trans HC.out
  go_wp2_with fail
  refine (repeat_2 _ (fv a 57) _ HC1 rfl).mono ?_; rintro e w2 ⟨b2, g, cp, cs, fz, rfl, h3, h4, h5, h6, h7⟩
  replace h6 := hide h6
  go_wp2_with fail
  go_ret
  exact ⟨below_step (below_step HB.out b1) b2, g, cp, cs, fz, rfl, h3, h4, Nat.le_trans HB.out.size (Nat.le_trans b1.size h5), h6.out, h7⟩
theorem ways_8 (a : Nat) (w : World) (ht : L5.Tab w) : Calls Tryd.prog 50 #[.pointer (some ⟨a, 0, none⟩), .int .i64 8] w (Row ((waysN 8).map (fv a)) w) := by
  have hmf : ∀ (fn : Fn) (first cap : Array Value) (w : World), (Instr.makeFunc fn first cap).run Tryd.prog w = .ok (.func fn first cap) w := fun _ _ _ _ => rfl
  have T := hide (ht.below (below_box w (.cells #[fv a 57] 80)))
  have HC : Hid ((w.alloc (.cells #[fv a 57] 80)).cell? ⟨w.heap.size, 0, none⟩ = some (fv a 57)) := hide (by simp [go_sem])
  have HB := hide (below_box w (.cells #[fv a 57] 80))
  have HL : Hid ((L5.takes (L5.num 8)).length = 0) := hide (by decide)
  have hz : w.heap.size < (w.alloc (.cells #[fv a 57] 80)).heap.size := by simp
  clear ht
  go_enter Tryd.func50, Tryd.ntmps50
  go_wp2_with fail
  show Calls _ _ _ (w.alloc (.cells #[fv a 57] 80)) _
  generalize w.alloc (.cells #[fv a 57] 80) = W at *
  refine (L5.takes_any 8 _ T.out).mono ?_; rintro e w1 ⟨ao, cap, rfl, hS, b1⟩
  rw [HL.out]
  clear hS
  have HC1 := (b1.cell (p := ⟨w.heap.size, 0, none⟩) hz).trans HC.out
  go_wp2_with fail
  refine (repeat_0 _ _).mono ?_; rintro e w2 ⟨b2, g, cp, cs, fz, rfl, h3, h4, h5, h6, h7⟩
  replace h6 := hide h6
  go_wp2_with fail
  go_ret
  exact ⟨below_step (below_step HB.out b1) b2, g, cp, cs, fz, rfl, h3, h4, Nat.le_trans HB.out.size (Nat.le_trans b1.size h5), h6.out, h7⟩
theorem ways_9 (a : Nat) (w : World) (ht : L5.Tab w) : Calls Tryd.prog 50 #[.pointer (some ⟨a, 0, none⟩), .int .i64 9] w (Row ((waysN 9).map (fv a)) w) := by
  have hmf : ∀ (fn : Fn) (first cap : Array Value) (w : World), (Instr.makeFunc fn first cap).run Tryd.prog w = .ok (.func fn first cap) w := fun _ _ _ _ => rfl
  have T := hide (ht.below (below_box w (.cells #[fv a 57] 80)))
  have HC : Hid ((w.alloc (.cells #[fv a 57] 80)).cell? ⟨w.heap.size, 0, none⟩ = some (fv a 57)) := hide (by simp [go_sem])
  have HB := hide (below_box w (.cells #[fv a 57] 80))
  have HL : Hid ((L5.takes (L5.num 9)).length = 2) := hide (by decide)
  have hz : w.heap.size < (w.alloc (.cells #[fv a 57] 80)).heap.size := by simp
  clear ht
  go_enter Tryd.func50, Tryd.ntmps50
  go_wp2_with fail
  show Calls _ _ _ (w.alloc (.cells #[fv a 57] 80)) _
  generalize w.alloc (.cells #[fv a 57] 80) = W at *
  refine (L5.takes_any 9 _ T.out).mono ?_; rintro e w1 ⟨ao, cap, rfl, hS, b1⟩
  rw [HL.out]
  clear hS
  have HC1 := (b1.cell (p := ⟨w.heap.size, 0, none⟩) hz).trans HC.out
  go_wp2_with fail
  refine (repeat_2 _ (fv a 57) _ HC1 rfl).mono ?_; rintro e w2 ⟨b2, g, cp, cs, fz, rfl, h3, h4, h5, h6, h7⟩
  replace h6 := hide h6
  go_wp2_with fail
  go_ret
  exact ⟨below_step (below_step HB.out b1) b2, g, cp, cs, fz, rfl, h3, h4, Nat.le_trans HB.out.size (Nat.le_trans b1.size h5), h6.out, h7⟩
theorem ways_16 (a : Nat) (w : World) (ht : L5.Tab w) : Calls Tryd.prog 50 #[.pointer (some ⟨a, 0, none⟩), .int .i64 16] w (Row ((waysN 16).map (fv a)) w) := by
  have hmf : ∀ (fn : Fn) (first cap : Array Value) (w : World), (Instr.makeFunc fn first cap).run Tryd.prog w = .ok (.func fn first cap) w := fun _ _ _ _ => rfl
  have T := hide (ht.below (below_box w (.cells #[fv a 57] 80)))
  have HC : Hid ((w.alloc (.cells #[fv a 57] 80)).cell? ⟨w.heap.size, 0, none⟩ = some (fv a 57)) := hide (by simp [go_sem])
  have HB := hide (below_box w (.cells #[fv a 57] 80))
  have HL : Hid ((L5.takes (L5.num 16)).length = 1) := hide (by decide)
  have hz : w.heap.size < (w.alloc (.cells #[fv a 57] 80)).heap.size := by simp
  clear ht
  go_enter Tryd.func50, Tryd.ntmps50
  go_wp2_with fail
  show Calls _ _ _ (w.alloc (.cells #[fv a 57] 80)) _
  generalize w.alloc (.cells #[fv a 57] 80) = W at *
  refine (L5.takes_any 16 _ T.out).mono ?_; rintro e w1 ⟨ao, cap, rfl, hS, b1⟩
  rw [HL.out]
  clear hS
  have HC1 := (b1.cell (p := ⟨w.heap.size, 0, none⟩) hz).trans HC.out
  go_wp2_with fail
  refine (repeat_1 _ (fv a 57) _ HC1 rfl).mono ?_; rintro e w2 ⟨b2, g, cp, cs, fz, rfl, h3, h4, h5, h6, h7⟩
  replace h6 := hide h6
  go_wp2_with fail
  go_ret
  exact ⟨below_step (below_step HB.out b1) b2, g, cp, cs, fz, rfl, h3, h4, Nat.le_trans HB.out.size (Nat.le_trans b1.size h5), h6.out, h7⟩
theorem ways_17 (a : Nat) (w : World) (ht : L5.Tab w) : Calls Tryd.prog 50 #[.pointer (some ⟨a, 0, none⟩), .int .i64 17] w (Row ((waysN 17).map (fv a)) w) := by
  have hmf : ∀ (fn : Fn) (first cap : Array Value) (w : World), (Instr.makeFunc fn first cap).run Tryd.prog w = .ok (.func fn first cap) w := fun _ _ _ _ => rfl
  have T := hide (ht.below (below_box w (.cells #[fv a 57] 80)))
  have HC : Hid ((w.alloc (.cells #[fv a 57] 80)).cell? ⟨w.heap.size, 0, none⟩ = some (fv a 57)) := hide (by simp [go_sem])
  have HB := hide (below_box w (.cells #[fv a 57] 80))
  have HL : Hid ((L5.takes (L5.num 17)).length = 1) := hide (by decide)
  have hz : w.heap.size < (w.alloc (.cells #[fv a 57] 80)).heap.size := by simp
  clear ht
  go_enter Tryd.func50, Tryd.ntmps50
  go_wp2_with fail
  show Calls _ _ _ (w.alloc (.cells #[fv a 57] 80)) _
  generalize w.alloc (.cells #[fv a 57] 80) = W at *
  refine (L5.takes_any 17 _ T.out).mono ?_; rintro e w1 ⟨ao, cap, rfl, hS, b1⟩
  rw [HL.out]
  clear hS
  have HC1 := (b1.cell (p := ⟨w.heap.size, 0, none⟩) hz).trans HC.out
  go_wp2_with fail
  refine (repeat_1 _ (fv a 57) _ HC1 rfl).mono ?_; rintro e w2 ⟨b2, g, cp, cs, fz, rfl, h3, h4, h5, h6, h7⟩
  replace h6 := hide h6
  go_wp2_with fail
  go_ret
  exact ⟨below_step (below_step HB.out b1) b2, g, cp, cs, fz, rfl, h3, h4, Nat.le_trans HB.out.size (Nat.le_trans b1.size h5), h6.out, h7⟩
theorem ways_18 (a : Nat) (w : World) (ht : L5.Tab w) : Calls Tryd.prog 50 #[.pointer (some ⟨a, 0, none⟩), .int .i64 18] w (Row ((waysN 18).map (fv a)) w) := by
  have hmf : ∀ (fn : Fn) (first cap : Array Value) (w : World), (Instr.makeFunc fn first cap).run Tryd.prog w = .ok (.func fn first cap) w := fun _ _ _ _ => rfl
  have T := hide (ht.below (below_box w (.cells #[fv a 57] 80)))
  have HC : Hid ((w.alloc (.cells #[fv a 57] 80)).cell? ⟨w.heap.size, 0, none⟩ = some (fv a 57)) := hide (by simp [go_sem])
  have HB := hide (below_box w (.cells #[fv a 57] 80))
  have HL : Hid ((L5.takes (L5.num 18)).length = 2) := hide (by decide)
  have hz : w.heap.size < (w.alloc (.cells #[fv a 57] 80)).heap.size := by simp
  clear ht
  go_enter Tryd.func50, Tryd.ntmps50
  go_wp2_with fail
  show Calls _ _ _ (w.alloc (.cells #[fv a 57] 80)) _
  generalize w.alloc (.cells #[fv a 57] 80) = W at *
  refine (L5.takes_any 18 _ T.out).mono ?_; rintro e w1 ⟨ao, cap, rfl, hS, b1⟩
  rw [HL.out]
  clear hS
  have HC1 := (b1.cell (p := ⟨w.heap.size, 0, none⟩) hz).trans HC.out
  go_wp2_with fail
  refine (repeat_2 _ (fv a 57) _ HC1 rfl).mono ?_; rintro e w2 ⟨b2, g, cp, cs, fz, rfl, h3, h4, h5, h6, h7⟩
  replace h6 := hide h6
  go_wp2_with fail
  go_ret
  exact ⟨below_step (below_step HB.out b1) b2, g, cp, cs, fz, rfl, h3, h4, Nat.le_trans HB.out.size (Nat.le_trans b1.size h5), h6.out, h7⟩
theorem ways_19 (a : Nat) (w : World) (ht : L5.Tab w) : Calls Tryd.prog 50 #[.pointer (some ⟨a, 0, none⟩), .int .i64 19] w (Row ((waysN 19).map (fv a)) w) := by
  have hmf : ∀ (fn : Fn) (first cap : Array Value) (w : World), (Instr.makeFunc fn first cap).run Tryd.prog w = .ok (.func fn first cap) w := fun _ _ _ _ => rfl
  have T := hide (ht.below (below_box w (.cells #[fv a 57] 80)))
  have HC : Hid ((w.alloc (.cells #[fv a 57] 80)).cell? ⟨w.heap.size, 0, none⟩ = some (fv a 57)) := hide (by simp [go_sem])
  have HB := hide (below_box w (.cells #[fv a 57] 80))
  have HL : Hid ((L5.takes (L5.num 19)).length = 2) := hide (by decide)
  have hz : w.heap.size < (w.alloc (.cells #[fv a 57] 80)).heap.size := by simp
  clear ht
  go_enter Tryd.func50, Tryd.ntmps50
  go_wp2_with fail
  show Calls _ _ _ (w.alloc (.cells #[fv a 57] 80)) _
  generalize w.alloc (.cells #[fv a 57] 80) = W at *
  refine (L5.takes_any 19 _ T.out).mono ?_; rintro e w1 ⟨ao, cap, rfl, hS, b1⟩
  rw [HL.out]
  clear hS
  have HC1 := (b1.cell (p := ⟨w.heap.size, 0, none⟩) hz).trans HC.out
  go_wp2_with fail
  refine (repeat_2 _ (fv a 57) _ HC1 rfl).mono ?_; rintro e w2 ⟨b2, g, cp, cs, fz, rfl, h3, h4, h5, h6, h7⟩
  replace h6 := hide h6
  go_wp2_with fail
  go_ret
  exact ⟨below_step (below_step HB.out b1) b2, g, cp, cs, fz, rfl, h3, h4, Nat.le_trans HB.out.size (Nat.le_trans b1.size h5), h6.out, h7⟩
theorem ways_22 (a : Nat) (w : World) (ht : L5.Tab w) : Calls Tryd.prog 50 #[.pointer (some ⟨a, 0, none⟩), .int .i64 22] w (Row ((waysN 22).map (fv a)) w) := by
  have hmf : ∀ (fn : Fn) (first cap : Array Value) (w : World), (Instr.makeFunc fn first cap).run Tryd.prog w = .ok (.func fn first cap) w := fun _ _ _ _ => rfl
  have T := hide (ht.below (below_box w (.cells #[fv a 57] 80)))
  have HC : Hid ((w.alloc (.cells #[fv a 57] 80)).cell? ⟨w.heap.size, 0, none⟩ = some (fv a 57)) := hide (by simp [go_sem])
  have HB := hide (below_box w (.cells #[fv a 57] 80))
  have HL : Hid ((L5.takes (L5.num 22)).length = 1) := hide (by decide)
  have hz : w.heap.size < (w.alloc (.cells #[fv a 57] 80)).heap.size := by simp
  clear ht
  go_enter Tryd.func50, Tryd.ntmps50
  go_wp2_with fail
  show Calls _ _ _ (w.alloc (.cells #[fv a 57] 80)) _
  generalize w.alloc (.cells #[fv a 57] 80) = W at *
  refine (L5.takes_any 22 _ T.out).mono ?_; rintro e w1 ⟨ao, cap, rfl, hS, b1⟩
  rw [HL.out]
  clear hS
  have HC1 := (b1.cell (p := ⟨w.heap.size, 0, none⟩) hz).trans HC.out
  go_wp2_with fail
  refine (repeat_1 _ (fv a 57) _ HC1 rfl).mono ?_; rintro e w2 ⟨b2, g, cp, cs, fz, rfl, h3, h4, h5, h6, h7⟩
  replace h6 := hide h6
  go_wp2_with fail
  go_ret
  exact ⟨below_step (below_step HB.out b1) b2, g, cp, cs, fz, rfl, h3, h4, Nat.le_trans HB.out.size (Nat.le_trans b1.size h5), h6.out, h7⟩
theorem ways_25 (a : Nat) (w : World) (ht : L5.Tab w) : Calls Tryd.prog 50 #[.pointer (some ⟨a, 0, none⟩), .int .i64 25] w (Row ((waysN 25).map (fv a)) w) := by
  have hmf : ∀ (fn : Fn) (first cap : Array Value) (w : World), (Instr.makeFunc fn first cap).run Tryd.prog w = .ok (.func fn first cap) w := fun _ _ _ _ => rfl
  have T := hide (ht.below (below_box w (.cells #[fv a 57] 80)))
  have HC : Hid ((w.alloc (.cells #[fv a 57] 80)).cell? ⟨w.heap.size, 0, none⟩ = some (fv a 57)) := hide (by simp [go_sem])
  have HB := hide (below_box w (.cells #[fv a 57] 80))
  have HL : Hid ((L5.takes (L5.num 25)).length = 1) := hide (by decide)
  have hz : w.heap.size < (w.alloc (.cells #[fv a 57] 80)).heap.size := by simp
  clear ht
  go_enter Tryd.func50, Tryd.ntmps50
  go_wp2_with fail
  show Calls _ _ _ (w.alloc (.cells #[fv a 57] 80)) _
  generalize w.alloc (.cells #[fv a 57] 80) = W at *
  refine (L5.takes_any 25 _ T.out).mono ?_; rintro e w1 ⟨ao, cap, rfl, hS, b1⟩
  rw [HL.out]
  clear hS
  have HC1 := (b1.cell (p := ⟨w.heap.size, 0, none⟩) hz).trans HC.out
  go_wp2_with fail
  refine (repeat_1 _ (fv a 57) _ HC1 rfl).mono ?_; rintro e w2 ⟨b2, g, cp, cs, fz, rfl, h3, h4, h5, h6, h7⟩
  replace h6 := hide h6
  go_wp2_with fail
  go_ret
  exact ⟨below_step (below_step HB.out b1) b2, g, cp, cs, fz, rfl, h3, h4, Nat.le_trans HB.out.size (Nat.le_trans b1.size h5), h6.out, h7⟩
end Go.Proofs.YtkkkgennkhdfhaaDoor
