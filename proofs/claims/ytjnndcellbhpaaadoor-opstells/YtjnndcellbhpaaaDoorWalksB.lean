/- The document's functions over lists of numbers: whether one is in a list, whether two lists are the same, the questions, and the words. -/
import Derived.Test.YtjnndcellbhpaaaDoorWalksA
import Derived.Lib.SmallJoins
namespace Go.Proofs.YtjnndcellbhpaaaDoor
open Go Go.RowKit

def nth (l : List Int) (i : Nat) : Int := l.getD i 0
def has (l : List Int) (n : Int) : Bool := l.contains n
/-- A slice of numbers reads as a list. -/
def SlI (w : World) (ao : Option Addr) (l : List Int) : Prop :=
  l = [] ∨ ∃ b, ao = some ⟨b, 0, none⟩ ∧ b < w.heap.size ∧ ∀ i, i < l.length → w.cell? ⟨b, i, none⟩ = some (.int .i64 (nth l i))
theorem SlI.below {w w' : World} {ao : Option Addr} {l : List Int} (h : SlI w ao l) (hb : Below w.heap.size w w') : SlI w' ao l := by
  rcases h with h | ⟨b, e, hl, hc⟩
  · exact .inl h
  · exact .inr ⟨b, e, Nat.lt_of_lt_of_le hl hb.size, fun i hi => (hb.cell (p := ⟨b, i, none⟩) hl).trans (hc i hi)⟩
theorem none_yet {l : List Int} {n : Int} (h : ∀ j, j < l.length → nth l j ≠ n) : has l n = false := by
  rw [Bool.eq_false_iff]
  intro hc
  obtain ⟨j, hj, e⟩ := List.mem_iff_getElem.1 (show n ∈ l by simpa [has] using hc)
  exact h j hj (by simp [nth, hj, e])
theorem one_here {l : List Int} {n : Int} {j : Nat} (hj : j < l.length) (h : nth l j = n) : has l n = true := by
  have : l[j] = n := by simpa [nth, hj] using h
  simpa [has] using List.mem_iff_getElem.2 ⟨j, hj, this⟩
theorem in_any (n : Int) (l : List Int) (b cap : Nat) (w : World) (hl : l.length ≤ 1000) (hc : ∀ i, i < l.length → w.cell? ⟨b, i, none⟩ = some (.int .i64 (nth l i))) :
    Calls Tryd.prog 39 #[.int .i64 n, .slice (some ⟨b, 0, none⟩) l.length cap] w fun e w' => e = .returned (.bool (has l n)) ∧ w' = w := by
  go_enter Tryd.func39, Tryd.ntmps39
  go_wp2
  go_loop [5] (fun i => ∃ k : Nat, k ≤ l.length ∧ i = .int .i64 k ∧ ∀ j, j < k → nth l j ≠ n) (fun i => l.length - (intOf i).toNat)
  case atStart => exact ⟨0, Nat.zero_le _, rfl, fun j h => by omega⟩
  case round =>
    obtain ⟨k, hk, rfl, hn⟩ := hrel
    have HN := hide hn
    clear hn
    by_cases hlt : k < l.length
    · have hck := hc k hlt
      by_cases he : nth l k = n
      · go_wp2
        go_ret
        exact ⟨ret_bool (one_here hlt he).symm, rfl⟩
      · go_wp2
        go_round
        case rel => exact ⟨k + 1, by omega, by go_num, fun j hj => by
          by_cases e : j = k
          · subst e; exact he
          · exact HN.out j (by omega)⟩
        case measure => simp [intOf]; omega
    · go_wp2
      go_ret
      exact ⟨ret_bool (none_yet (fun j hj => HN.out j (by omega))).symm, rfl⟩

/-- A block of numbers that was just made reads as its list. -/
theorem new_list (l : List Int) (w : World) (t : TypeId) : ∀ i, i < l.length → (w.alloc (.cells (l.map (Value.int .i64)).toArray t)).cell? ⟨w.heap.size, i, none⟩ = some (.int .i64 (nth l i)) := by
  intro i hi
  rw [Joins.cell_alloc_mark_at _ _ _ _ _ _ rfl]
  simp [nth, hi]
theorem refTraps_any (op : Int) (w : World) : Calls Tryd.prog 19 #[.int .i64 op] w fun e w' => e = .returned (.bool (beside (num op) 1)) ∧ Below w.heap.size w w' := by
  go_enter Tryd.func19, Tryd.ntmps19
  go_wp2_with fail
  refine (in_any op trapsL _ _ _ (by decide) (new_list trapsL w 3)).mono ?_; rintro e w1 ⟨rfl, rfl⟩
  go_wp2_with fail
  go_ret
  exact ⟨ret_bool (traps_l op), below_box _ _⟩
theorem refReads_any (op : Int) (w : World) : Calls Tryd.prog 21 #[.int .i64 op] w fun e w' => e = .returned (.bool (beside (num op) 2)) ∧ Below w.heap.size w w' := by
  go_enter Tryd.func21, Tryd.ntmps21
  go_wp2_with fail
  refine (in_any op readsL _ _ _ (by decide) (new_list readsL w 3)).mono ?_; rintro e w1 ⟨rfl, rfl⟩
  go_wp2_with fail
  go_ret
  exact ⟨ret_bool (reads_l op), below_box _ _⟩
theorem refWrites_any (op : Int) (w : World) : Calls Tryd.prog 23 #[.int .i64 op] w fun e w' => e = .returned (.bool (beside (num op) 4)) ∧ Below w.heap.size w w' := by
  go_enter Tryd.func23, Tryd.ntmps23
  go_wp2_with fail
  refine (in_any op writesL _ _ _ (by decide) (new_list writesL w 3)).mono ?_; rintro e w1 ⟨rfl, rfl⟩
  go_wp2_with fail
  go_ret
  exact ⟨ret_bool (writes_l op), below_box _ _⟩
theorem refPure_any (op : Int) (w : World) : Calls Tryd.prog 29 #[.int .i64 op] w fun e w' => e = .returned (.bool (beside (num op) 32)) ∧ Below w.heap.size w w' := by
  go_enter Tryd.func29, Tryd.ntmps29
  go_wp2_with fail
  refine (in_any op pureL _ _ _ (by decide) (new_list pureL w 3)).mono ?_; rintro e w1 ⟨rfl, rfl⟩
  go_wp2_with fail
  go_ret
  exact ⟨ret_bool (pure_l op), below_box _ _⟩
theorem seen_of (op : Int) : ((((beside (num op) 4 || beside (num op) 8) || op == 22) || op == 23) || op == 25) = beside (num op) 28 := by
  rw [← writes_l, ← ends_l, ← seen_l, Bool.eq_iff_iff]
  simp [writesL, endsL, seenL]
  omega
theorem refSeen_any (op : Int) (w : World) : Calls Tryd.prog 25 #[.int .i64 op] w fun e w' => e = .returned (.bool (beside (num op) 28)) ∧ Below w.heap.size w w' := by
  have HS := hide (seen_of op)
  cases h4 : beside (num op) 4
  · cases h8 : beside (num op) 8
    all_goals
      rw [h4, h8] at HS
      have H4 := hide h4
      have H8 := hide h8
      clear h4 h8
      go_enter Tryd.func25, Tryd.ntmps25
      go_wp2_with fail
      refine (refWrites_any op _).mono ?_; rintro e w1 ⟨rfl, b1⟩
      rw [H4.out]
      go_wp2_with fail
      refine (refEnds_any op _).mono ?_; rintro e w2 ⟨rfl, rfl⟩
      rw [H8.out]
      go_wp2_with fail
      all_goals (go_ret; exact ⟨ret_bool (by simpa [*] using HS.out), b1⟩)
  · rw [h4] at HS
    have H4 := hide h4
    clear h4
    go_enter Tryd.func25, Tryd.ntmps25
    go_wp2_with fail
    refine (refWrites_any op _).mono ?_; rintro e w1 ⟨rfl, b1⟩
    rw [H4.out]
    go_wp2_with fail
    go_ret
    exact ⟨ret_bool (by simpa using HS.out), b1⟩

end Go.Proofs.YtjnndcellbhpaaaDoor
