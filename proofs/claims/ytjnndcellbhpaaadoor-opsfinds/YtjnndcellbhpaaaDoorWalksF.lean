/- What the document says that an operation takes; whether two lists of numbers are the same. -/
import Derived.Test.YtjnndcellbhpaaaDoorWalksE
namespace Go.Proofs.YtjnndcellbhpaaaDoor
open Go Go.RowKit

theorem sl_of_own {w : World} {B : Nat} {v : Value} {l : List Int} (h : w.ownsRow B 3 1 v l.length (l.map (Value.int .i64))) : ∃ ao cap, v = .slice ao l.length cap ∧ SlI w ao l := by
  rcases h.2 with ⟨rfl, h0⟩ | ⟨g, cap, cur, rfl, hb, hg, hc, _⟩
  · have : l = [] := List.length_eq_zero_iff.1 h0
    subst this
    exact ⟨none, 0, rfl, .inl rfl⟩
  · refine ⟨some ⟨g, 0, none⟩, cap, rfl, .inr ⟨g, rfl, (Array.getElem?_eq_some_iff.1 hg).1, fun i hi => ?_⟩⟩
    have ha := h.cells (g := g) rfl i (.int .i64 (nth l i)) (by simp [nth, hi])
    rw [Addr.add_lit] at ha
    simpa using ha
/-- A call that answers a slice of these numbers. -/
def Lists (l : List Int) (w : World) (e : Ending) (w' : World) : Prop := ∃ ao cap, e = .returned (.slice ao l.length cap) ∧ SlI w' ao l ∧ Below w.heap.size w w'
theorem takes_any (op : Int) (w : World) (ht : Tab w) : Calls Tryd.prog 16 #[.int .i64 op] w (Lists (takes (num op)) w) := by
  refine (takes_try op w ht).mono ?_
  rintro e w' ⟨v, w1, rfl, b1, hG⟩
  obtain ⟨ao, cap, rfl, hS⟩ := sl_of_own hG.1
  exact ⟨ao, cap, rfl, hS, below_step b1 hG.2⟩

theorem lists_new {k : Nat} (l : List Int) (hl : takes k = l) (w : World) (n cap : Nat) (hn : l.length = n) (C : Array Value) (hC : (l.map (Value.int .i64)).toArray = C) :
    Lists (takes k) w (.returned (.slice (some ⟨w.heap.size, 0, none⟩) n cap)) (w.alloc (.cells C 3)) := by
  subst hn hC
  rw [hl]
  exact ⟨_, _, rfl, .inr ⟨_, rfl, by simp, new_list l w 3⟩, below_box _ _⟩
theorem lists_at {op : Int} (k : Int) (l : List Int) (h : (op == k) = true) (hl : takes (num k) = l) (w : World) (n cap : Nat) (hn : l.length = n) (C : Array Value) (hC : (l.map (Value.int .i64)).toArray = C) :
    Lists (takes (num op)) w (.returned (.slice (some ⟨w.heap.size, 0, none⟩) n cap)) (w.alloc (.cells C 3)) := by
  have : op = k := by simpa using h
  subst this
  exact lists_new l hl w n cap hn C hC
theorem takes_two {op : Int} (h1 : 2 ≤ op) (h2 : op ≤ 7) : takes (num op) = [1, 1] := by
  have hk : ∀ k, k ≤ 7 → 2 ≤ k → takes k = [1, 1] := by decide +kernel
  rw [show num op = op.toNat from if_pos (by omega)]
  exact hk _ (by omega) (by omega)
theorem takes_none {op : Int} (h : ¬ (2 ≤ op ∧ op ≤ 7)) (h2 : [9, 14, 11, 12, 15, 25, 13, 16, 17, 18, 19, 22, 27].contains op = false) : takes (num op) = [] := by
  by_cases ho : 1 ≤ op ∧ op ≤ 29
  · have e : op = ((op.toNat : Nat) : Int) := by omega
    have hk : ∀ k, k ≤ 29 → ¬ (2 ≤ k ∧ k ≤ 7) → [9, 14, 11, 12, 15, 25, 13, 16, 17, 18, 19, 22, 27].contains ((k : Nat) : Int) = false → takes k = [] := by decide +kernel
    rw [show num op = op.toNat from if_pos ho]
    exact hk op.toNat (by omega) (by omega) (by rw [← e]; exact h2)
  · rw [num_out ho]; rfl
theorem lists_none {op : Int} (h : ¬ (2 ≤ op ∧ op ≤ 7)) (h9 : (op == 9) = false) (h14 : (op == 14) = false) (h11 : (op == 11) = false) (h12 : (op == 12) = false) (h15 : (op == 15) = false) (h25 : (op == 25) = false) (h13 : (op == 13) = false) (h16 : (op == 16) = false) (h17 : (op == 17) = false) (h18 : (op == 18) = false) (h19 : (op == 19) = false) (h22 : (op == 22) = false) (h27 : (op == 27) = false) (w : World) :
    Lists (takes (num op)) w (.returned (.slice none 0 0)) w := by
  rw [takes_none h (by simp only [List.contains_cons, List.contains_nil, h9, h14, h11, h12, h15, h25, h13, h16, h17, h18, h19, h22, h27]; rfl)]
  exact ⟨none, 0, rfl, .inl rfl, Below.refl _ _⟩
theorem refTakes_two (op : Int) (w : World) (h1 : 2 ≤ op) (h2 : op ≤ 7) : Calls Tryd.prog 17 #[.int .i64 op] w (Lists (takes (num op)) w) := by
  have HL := hide (takes_two h1 h2)
  go_enter Tryd.func17, Tryd.ntmps17
  go_wp2_with fail
  go_ret
  exact lists_new [1, 1] HL.out w _ _ rfl _ rfl
theorem refTakes_else (op : Int) (w : World) (h : ¬ (2 ≤ op ∧ op ≤ 7)) : Calls Tryd.prog 17 #[.int .i64 op] w (Lists (takes (num op)) w) := by
  have HH := hide h
  by_cases hx : 2 ≤ op
  all_goals
    go_enter Tryd.func17, Tryd.ntmps17
    go_wp2_with fail
    all_goals go_ret
    all_goals first
      | exact lists_at 9 [2, 2] (by assumption) rfl w _ _ rfl _ rfl
      | exact lists_at 14 [2, 2] (by assumption) rfl w _ _ rfl _ rfl
      | exact lists_at 11 [2] (by assumption) rfl w _ _ rfl _ rfl
      | exact lists_at 12 [2] (by assumption) rfl w _ _ rfl _ rfl
      | exact lists_at 15 [2] (by assumption) rfl w _ _ rfl _ rfl
      | exact lists_at 25 [2] (by assumption) rfl w _ _ rfl _ rfl
      | exact lists_at 13 [2, 1] (by assumption) rfl w _ _ rfl _ rfl
      | exact lists_at 16 [3] (by assumption) rfl w _ _ rfl _ rfl
      | exact lists_at 17 [3] (by assumption) rfl w _ _ rfl _ rfl
      | exact lists_at 18 [3, 1] (by assumption) rfl w _ _ rfl _ rfl
      | exact lists_at 19 [3, 2] (by assumption) rfl w _ _ rfl _ rfl
      | exact lists_at 22 [1] (by assumption) rfl w _ _ rfl _ rfl
      | exact lists_at 27 [1] (by assumption) rfl w _ _ rfl _ rfl
      | exact lists_none HH.out (by assumption) (by assumption) (by assumption) (by assumption) (by assumption) (by assumption) (by assumption) (by assumption) (by assumption) (by assumption) (by assumption) (by assumption) (by assumption) w
theorem refTakes_any (op : Int) (w : World) : Calls Tryd.prog 17 #[.int .i64 op] w (Lists (takes (num op)) w) := by
  by_cases h : 2 ≤ op ∧ op ≤ 7
  · exact refTakes_two op w h.1 h.2
  · exact refTakes_else op w h

theorem ints_same (l : List Int) (ao bo : Option Addr) (ca cb : Nat) (w : World) (hl : l.length ≤ 1000) (ha : SlI w ao l) (hb : SlI w bo l) :
    Calls Tryd.prog 15 #[.slice ao l.length ca, .slice bo l.length cb] w fun e w' => e = .returned (.bool true) ∧ Below w.heap.size w w' := by
  rcases ha with rfl | ⟨a, rfl, hal, ha⟩
  · go_enter Tryd.func15, Tryd.ntmps15
    go_wp2
    go_loop [5] (fun i => i = .int .i64 0) (fun i => 0)
    case atStart => rfl
    case round =>
      subst hrel
      go_wp2
      go_ret
      exact ⟨rfl, Below.refl _ _⟩
  rcases hb with rfl | ⟨b, rfl, hbl, hb⟩
  · go_enter Tryd.func15, Tryd.ntmps15
    go_wp2
    go_loop [5] (fun i => i = .int .i64 0) (fun i => 0)
    case atStart => rfl
    case round =>
      subst hrel
      go_wp2
      go_ret
      exact ⟨rfl, Below.refl _ _⟩
  go_enter Tryd.func15, Tryd.ntmps15
  go_wp2
  go_loopw [5] (fun i wr => ∃ k : Nat, k ≤ l.length ∧ i = .int .i64 k ∧ Below w.heap.size w wr) (fun i _ => l.length - (intOf i).toNat)
  case atStart => exact ⟨0, Nat.zero_le _, rfl, Below.refl _ _⟩
  case round =>
    obtain ⟨k, hk, rfl, hB⟩ := hrel
    replace hB := hide hB
    by_cases hlt : k < l.length
    · have hB2 := fun x => below_step hB.out (grewTo_below wr x)
      have c1 := fun x => ((hB2 x).cell (p := ⟨a, k, none⟩) hal).trans (ha k hlt)
      have c2 := fun x => ((hB2 x).cell (p := ⟨b, k, none⟩) hbl).trans (hb k hlt)
      replace hB2 := hide hB2
      go_wp2
      refine region_grew (by kernel_rfl) (by kernel_rfl) ?_
      repeat (go_big_quiet_step (fail))
      refine wpQuiet_nil ?_
      rintro _ ⟨x, rfl⟩
      go_wp2_with fail
      go_roundw
      case rel => exact ⟨k + 1, by omega, by go_num, hB2.out x⟩
      case measure => simp [intOf]; omega
    · go_wp2
      go_ret
      exact ⟨rfl, hB.out⟩
end Go.Proofs.YtjnndcellbhpaaaDoor
