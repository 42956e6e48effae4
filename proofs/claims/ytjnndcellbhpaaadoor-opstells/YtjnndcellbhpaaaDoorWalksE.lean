/- What an operation takes, of the program and of the document; whether two lists of numbers are the same. -/
import Derived.Test.YtjnndcellbhpaaaDoorWalksD
import Derived.Laws.AppendOwn
import Derived.OwnWalk
import Derived.Lib.OthersKept
namespace Go.Proofs.YtjnndcellbhpaaaDoor
open Go Go.RowKit

theorem Tryd.info3 : (Tryd.prog.info? 3).map (fun i => (i.zero, i.size, i.bytes)) = some (some (.int .i64 0), 1, 8) := by kernel_rfl
/-- Those of the first types that are some. -/
def part (k : Nat) : Nat → List Int
  | 0 => []
  | 1 => [tk0 k].filter (fun x => x != 0)
  | _ => takes k
/-- What stands in memory while the types are gone through. -/
def Grows (w : World) (l : List Int) (v : Value) (wr : World) : Prop := wr.ownsRow w.heap.size 3 1 v l.length (l.map (Value.int .i64)) ∧ Below w.heap.size w wr
theorem grows_start (w : World) : Grows w [] (.slice none 0 0) w := ⟨World.ownsRow_nil _ _ _ _, Below.refl _ _⟩
theorem grows_own {w wr : World} {l : List Int} {v : Value} (h : Grows w l v wr) (o : Obj) : (wr.alloc o).ownsRow w.heap.size 3 1 v l.length (l.map (Value.int .i64)) := h.1.alloc o
theorem grows_step {w wr w2 : World} {l : List Int} {v v' : Value} {x : Int} {o : Obj} (h : Grows w l v wr) (own : w2.ownsRow w.heap.size 3 1 v' (l.length + 1) (l.map (Value.int .i64) ++ [.int .i64 x])) (hg : (wr.alloc o).grownBy w2 v.ownBlock) : Grows w (l ++ [x]) v' w2 := by
  refine ⟨by simpa using own, ?_⟩
  refine Below.grown (h.2.alloc h.2.size o) hg (by simp; have := h.2.size; omega) ?_
  intro k hk
  exact (h.1.lt k hk).1
theorem one_cell {w1 : World} {a : Value} {t : TypeId} : ∀ j u, [a][j]? = some u → (w1.alloc (.cells #[a] t)).cell? ((⟨w1.heap.size, 0, none⟩ : Addr).add j) = some u := by
  intro j u hj
  match j, hj with
  | 0, hj => simp at hj; subst hj; simp [Addr.add]
theorem one_one {a : Int} : ∀ u ∈ [Value.int .i64 a], u.oneCell' = true := by
  intro u hu
  simp only [List.mem_singleton] at hu
  subst hu; rfl
theorem row_takes (k : Nat) (w : World) : Sem.run Tryd.prog (Instr.field 39 (rowVal k) 1) w = .ok (.agg #[.int .i64 (tk0 k), .int .i64 (tk1 k)]) w := rfl

theorem pick0 (a b : Value) (w : World) : Sem.run Tryd.prog (Instr.index 37 (.agg #[a, b]) (.int .i64 0)) w = .ok a w := rfl
theorem pick1 (a b : Value) (w : World) : Sem.run Tryd.prog (Instr.index 37 (.agg #[a, b]) (.int .i64 1)) w = .ok b w := rfl

theorem takes_try (op : Int) (w : World) (ht : Tab w) : Calls Tryd.prog 16 #[.int .i64 op] w fun e w' => ∃ v w1, e = .returned v ∧ Below w.heap.size w w1 ∧ Grows w1 (takes (num op)) v w' := by
  obtain ⟨i0, hi, hz0, hz1, hz2⟩ := info_parts Tryd.info3
  have hr := row_takes
  have hp0 := pick0
  have hp1 := pick1
  go_enter Tryd.func16, Tryd.ntmps16
  go_wp2_with fail
  refine (of_any op _ ht).mono ?_; rintro e w1 ⟨rfl, b1⟩
  go_wp2_with fail
  go_loopw [3, 9] (fun v i wr => (i = .int .i64 0 ∧ Grows w1 [] v wr) ∨ (i = .int .i64 1 ∧ Grows w1 (part (num op) 1) v wr) ∨ (i = .int .i64 2 ∧ Grows w1 (takes (num op)) v wr)) (fun _ i _ => 2 - (intOf i).toNat)
  case atStart => exact .inl ⟨rfl, grows_start w1⟩
  case round =>
    rcases hrel with ⟨rfl, hG⟩ | ⟨rfl, hG⟩ | ⟨rfl, hG⟩
    all_goals replace hG := hide hG
    · by_cases h0 : tk0 (num op) = 0
      · go_wp2
        go_roundw
        case rel => exact .inr (.inl ⟨rfl, by have := hG.out; simpa [part, h0] using this⟩)
        case measure => simp [intOf]
      · go_wp2_with (at_builtin; refine wpList_append_own _ rfl (.tmp 14) (.tmp 16) 22 rfl w1.heap.size 3 i0 _ 1 8 Tryd.underlying22 hi hz0 hz1 hz2 rfl (by decide) _ _ _ rfl (grows_own hG.out _) ⟨wr.heap.size, 0, none⟩ 1 1 [.int .i64 (tk0 (num op))] rfl rfl one_cell one_one (by unfold maxLen; simp) (by simp) (by simp; exact Nat.le_succ_of_le hG.out.2.size) ?_; intro v2 w2 own2 grow2 _)
        have G2 := hide (grows_step hG.out own2 grow2)
        clear own2 grow2
        go_wp2
        go_roundw
        case rel => exact .inr (.inl ⟨rfl, by have := G2.out; simpa [part, h0] using this⟩)
        case measure => simp [intOf]
    · by_cases h0 : tk1 (num op) = 0
      · go_wp2
        go_roundw
        case rel => exact .inr (.inr ⟨rfl, by have := hG.out; simpa [part, takes, List.filter_cons, h0] using this⟩)
        case measure => simp [intOf]
      · have hl : (part (num op) 1).length ≤ 1 := List.length_filter_le _ _
        go_wp2_with (at_builtin; refine wpList_append_own _ rfl (.tmp 14) (.tmp 16) 22 rfl w1.heap.size 3 i0 _ 1 8 Tryd.underlying22 hi hz0 hz1 hz2 rfl (by decide) _ _ _ rfl (grows_own hG.out _) ⟨wr.heap.size, 0, none⟩ 1 1 [.int .i64 (tk1 (num op))] rfl rfl one_cell one_one (by unfold maxLen; omega) (by omega) (by simp; exact Nat.le_succ_of_le hG.out.2.size) ?_; intro v2 w2 own2 grow2 _)
        have G2 := hide (grows_step hG.out own2 grow2)
        clear own2 grow2
        go_wp2
        go_roundw
        case rel => exact .inr (.inr ⟨rfl, by
          have := G2.out
          have e : part (num op) 1 ++ [tk1 (num op)] = takes (num op) := by
            by_cases h1 : tk0 (num op) = 0 <;> simp [part, takes, h0, h1]
          rwa [e] at this⟩)
        case measure => simp [intOf]
    · go_wp2
      go_ret
      exact ⟨_, w1, rfl, b1, hG.out⟩
end Go.Proofs.YtjnndcellbhpaaaDoor
