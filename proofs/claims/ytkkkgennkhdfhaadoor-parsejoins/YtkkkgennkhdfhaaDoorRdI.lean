/- The ways to read operands, one behind the other. -/
import Derived.Test.YtkkkgennkhdfhaaDoorRdH
import Derived.Laws.MakeOwn
import Derived.Laws.CopyOwn
namespace Go.Proofs.YtkkkgennkhdfhaaDoor
open Go Go.RowKit
open G (Tok Er Ins Fun peek0 peek1 atOf)

theorem mul64_0 (w : World) : Calls Tryd.prog 82 #[.int .u64 1, .int .u64 0] w fun e w' => e = .returned (.tuple #[.int .u64 0, .int .u64 0]) ∧ w' = w := by
  go_enter Tryd.func82, Tryd.ntmps82
  go_wp2
  go_ret2
  exact ⟨rfl, rfl⟩
theorem mul64_1 (w : World) : Calls Tryd.prog 82 #[.int .u64 1, .int .u64 1] w fun e w' => e = .returned (.tuple #[.int .u64 0, .int .u64 1]) ∧ w' = w := by
  go_enter Tryd.func82, Tryd.ntmps82
  go_wp2
  go_ret2
  exact ⟨rfl, rfl⟩
theorem mul64_2 (w : World) : Calls Tryd.prog 82 #[.int .u64 1, .int .u64 2] w fun e w' => e = .returned (.tuple #[.int .u64 0, .int .u64 2]) ∧ w' = w := by
  go_enter Tryd.func82, Tryd.ntmps82
  go_wp2
  go_ret2
  exact ⟨rfl, rfl⟩
theorem mul_0 (w : World) : Calls Tryd.prog 77 #[.int .u64 1, .int .u64 0] w fun e w' => e = .returned (.tuple #[.int .u64 0, .int .u64 0]) ∧ w' = w := by
  go_enter Tryd.func77, Tryd.ntmps77
  go_wp2_with fail
  refine (mul64_0 _).mono ?_; rintro e w' ⟨rfl, rfl⟩
  go_wp2_with fail
  go_ret2
  exact ⟨rfl, rfl⟩
theorem mul_1 (w : World) : Calls Tryd.prog 77 #[.int .u64 1, .int .u64 1] w fun e w' => e = .returned (.tuple #[.int .u64 0, .int .u64 1]) ∧ w' = w := by
  go_enter Tryd.func77, Tryd.ntmps77
  go_wp2_with fail
  refine (mul64_1 _).mono ?_; rintro e w' ⟨rfl, rfl⟩
  go_wp2_with fail
  go_ret2
  exact ⟨rfl, rfl⟩
theorem mul_2 (w : World) : Calls Tryd.prog 77 #[.int .u64 1, .int .u64 2] w fun e w' => e = .returned (.tuple #[.int .u64 0, .int .u64 2]) ∧ w' = w := by
  go_enter Tryd.func77, Tryd.ntmps77
  go_wp2_with fail
  refine (mul64_2 _).mono ?_; rintro e w' ⟨rfl, rfl⟩
  go_wp2_with fail
  go_ret2
  exact ⟨rfl, rfl⟩
/-- A list of ways at a block of its own. -/
def Row (fs : List Value) (w : World) (e : Ending) (w' : World) : Prop :=
  Below w.heap.size w w' ∧ ∃ (g cap : Nat) (cs : Array Value) (fz : Nat × Nat), e = .returned (.slice (some ⟨g, 0, none⟩) fs.length cap) ∧ fs.length ≤ cap ∧ cap ≤ 8 ∧ w.heap.size ≤ g ∧ w'.heap[g]? = some (.cells cs 80 fz) ∧ ∀ (k : Nat) (f : Value), fs[k]? = some f → cs[k]? = some f
theorem Tryd.info80 : (Tryd.prog.info? 80).map (fun i => (i.zero, i.size, i.bytes)) = some (some .nilFunc, 1, 8) := by kernel_rfl
theorem Tryd.size80 : (Tryd.prog.info? 80).map (·.size) = some 1 := by kernel_rfl
theorem own_heap {w : World} {b g : Nat} {xs : List Value} (h : w.ownsRow b 80 1 (.slice (some ⟨g, 0, none⟩) xs.length xs.length) xs.length xs) : w.heap[g]? = some (.cells xs.toArray 80 (0, 0)) := by
  rcases h.2 with ⟨hv, _⟩ | ⟨g', cap, cur, hv, _, hh, _, _, hs, ht⟩
  · cases hv
  · cases hv
    rw [hh]
    have : cur.toList = xs := by rw [← ht, List.take_of_length_le (by simp [hs])]
    rw [← this]
theorem one_f {f : Value} (hf : f.oneCell' = true) : ∀ v ∈ [f], v.oneCell' = true := by
  intro v hv
  simp only [List.mem_singleton] at hv
  subst hv; exact hf
theorem one_at {w : World} {g : Nat} {f : Value} (h : w.cell? ⟨g, 0, none⟩ = some f) : ∀ (j : Nat) (v : Value), [f][j]? = some v → w.cell? ((⟨g, 0, none⟩ : Addr).add j) = some v := by
  intro j v hj
  match j, hj with
  | 0, hj => simp at hj; subst hj; simpa [Addr.add] using h
theorem made_0 : (madeCells Value.nilFunc.cells (0 * 1)).toList = [] := by simp [madeCells]
theorem made_1 : (madeCells Value.nilFunc.cells (1 * 1)).toList = [.nilFunc] := by simp [madeCells, Value.cells]
theorem made_2 : (madeCells Value.nilFunc.cells (2 * 1)).toList = [.nilFunc, .nilFunc] := by simp [madeCells, Value.cells]; rfl
theorem grown_below {w w' : World} (h : w.grownBy w' none) : Below w.heap.size w w' := ⟨h.os, h.tape, h.output, h.size, fun k hk => h.block k hk (by simp)⟩
set_option maxRecDepth 20000 in
theorem repeat_2 (g : Nat) (f : Value) (w : World) (h : w.cell? ⟨g, 0, none⟩ = some f) (hf : f.oneCell' = true) : Calls Tryd.prog 69 #[.slice (some ⟨g, 0, none⟩) 1 1, .int .i64 2] w (Row [f, f] w) := by
  obtain ⟨i0, hi, hz0, hz1, hz2⟩ := info_parts Tryd.info80
  have hgl := World.block_lt_of_cell? w _ h
  go_enter Tryd.func69, Tryd.ntmps69
  go_wp2_with fail
  refine (mul_2 _).mono ?_; rintro e w' ⟨rfl, rfl⟩
  go_upto_region 7 with (at_make; refine wpList_make_full _ rfl _ _ 77 rfl w'.heap.size 80 i0 _ 1 Tryd.underlying77 hi hz0 hz1 .i64 .i64 2 2 2 rfl rfl rfl rfl (by omega) (by unfold maxLen; omega) (Nat.le_refl _) ?_; intro w1 own1 grow1; have HB1 := hide (grown_below grow1); rw [made_2] at own1; have HG1 := hide (own_heap own1); have hc1 := hide ((HB1.out.cell (p := ⟨g, 0, none⟩) hgl).trans h); clear own1 grow1)
  go_wp2_with (refine wpList_copy_splice rfl (.tmp 31) (.tmp 32) 77 77 rfl 80 Tryd.underlying77 Tryd.size80 _ _ _ _ _ _ rfl rfl w'.heap.size 0 [.nilFunc, .nilFunc] 80 HG1.out [f] rfl (fun _ => ⟨rfl, _, rfl, one_at hc1.out⟩) (by simp) (one_f hf) w'.heap.size w' HB1.out (Nat.le_refl _) ?_; intro w2 HG2 HB2; replace HB2 := hide HB2; replace HG2 : Hid (w2.heap[w'.heap.size]? = some (.cells #[f, .nilFunc] 80 (0, 0))) := HG2)
  go_loopw [8] (fun n wr => Below w'.heap.size w' wr ∧ ((n = .int .i64 1 ∧ Hid (wr.heap[w'.heap.size]? = some (.cells #[f, .nilFunc] 80 (0, 0)))) ∨ (n = .int .i64 2 ∧ Hid (wr.heap[w'.heap.size]? = some (.cells #[f, f] 80 (0, 0)))))) (fun n _ => 2 - (intOf n).toNat)
  case atStart => exact ⟨HB2.out, .inl ⟨rfl, HG2⟩⟩
  case round =>
    obtain ⟨HB, ⟨rfl, HG⟩ | ⟨rfl, HG⟩⟩ := hrel
    · have HB := hide HB
      have hc : wr.drew.cell? ⟨w'.heap.size, 0, none⟩ = some f := by
        show wr.cell? _ = _
        simp [World.cell?, HG.out]
      have HC := hide hc
      clear hc
      have hcp : Sem.run Tryd.prog (Builtin.copy_ #[77, 77] 3 #[.slice (some ⟨w'.heap.size, 1, none⟩) 1 1, .slice (some ⟨w'.heap.size, 0, none⟩) 1 2]) wr.drew = .ok (.int .i64 1) (wr.drew.setRow w'.heap.size #[f, f]) :=
        run_copy_row (P := Tryd.prog) wr.drew 77 77 3 80 w'.heap.size 1 1 1 ⟨w'.heap.size, 0, none⟩ 1 2 #[f, .nilFunc] 80 [f] Tryd.underlying77 Tryd.size80 HG.out rfl (one_at HC.out) (by simp) (one_f hf)
      have HG3 : Hid ((wr.drew.setRow w'.heap.size #[f, f]).heap[w'.heap.size]? = some (.cells #[f, f] 80 (0, 0))) := hide (setRow_heap wr.drew w'.heap.size _ _ 80 _ HG.out)
      have HB3 := hide (below_setRow HB.out.drew (Nat.le_refl _) #[f, f])
      generalize wr.drew.setRow w'.heap.size #[f, f] = w3 at *
      go_wp2_with fail
      go_region
      go_wp2_with fail
      go_roundw
      case rel => exact ⟨HB3.out, .inr ⟨rfl, HG3⟩⟩
      case measure => simp [intOf]
    · have HB := hide HB
      go_wp2_with fail
      go_ret
      exact ⟨HB.out, w'.heap.size, 2, #[f, f], (0, 0), rfl, by simp, by omega, Nat.le_refl _, HG.out, fun k v hk => by simpa using hk⟩
set_option maxRecDepth 20000 in
theorem repeat_1 (g : Nat) (f : Value) (w : World) (h : w.cell? ⟨g, 0, none⟩ = some f) (hf : f.oneCell' = true) : Calls Tryd.prog 69 #[.slice (some ⟨g, 0, none⟩) 1 1, .int .i64 1] w (Row [f] w) := by
  obtain ⟨i0, hi, hz0, hz1, hz2⟩ := info_parts Tryd.info80
  have hgl := World.block_lt_of_cell? w _ h
  go_enter Tryd.func69, Tryd.ntmps69
  go_wp2_with fail
  refine (mul_1 _).mono ?_; rintro e w' ⟨rfl, rfl⟩
  go_upto_region 7 with (at_make; refine wpList_make_full _ rfl _ _ 77 rfl w'.heap.size 80 i0 _ 1 Tryd.underlying77 hi hz0 hz1 .i64 .i64 1 1 1 rfl rfl rfl rfl (by omega) (by unfold maxLen; omega) (Nat.le_refl _) ?_; intro w1 own1 grow1; have HB1 := hide (grown_below grow1); rw [made_1] at own1; have HG1 := hide (own_heap own1); have hc1 := hide ((HB1.out.cell (p := ⟨g, 0, none⟩) hgl).trans h); clear own1 grow1)
  go_wp2_with (refine wpList_copy_splice rfl (.tmp 31) (.tmp 32) 77 77 rfl 80 Tryd.underlying77 Tryd.size80 _ _ _ _ _ _ rfl rfl w'.heap.size 0 [.nilFunc] 80 HG1.out [f] rfl (fun _ => ⟨rfl, _, rfl, one_at hc1.out⟩) (by simp) (one_f hf) w'.heap.size w' HB1.out (Nat.le_refl _) ?_; intro w2 HG2 HB2; replace HB2 := hide HB2; replace HG2 : Hid (w2.heap[w'.heap.size]? = some (.cells #[f] 80 (0, 0))) := HG2)
  go_loopw [8] (fun n wr => wr = w2 ∧ n = .int .i64 1) (fun _ _ => 0)
  case atStart => exact ⟨rfl, rfl⟩
  case round =>
    obtain ⟨rfl, rfl⟩ := hrel
    go_wp2_with fail
    go_ret
    exact ⟨HB2.out, w'.heap.size, 1, #[f], (0, 0), rfl, by simp, by omega, Nat.le_refl _, HG2.out, fun k v hk => by simpa using hk⟩
set_option maxRecDepth 20000 in
theorem repeat_0 (g : Nat) (w : World) : Calls Tryd.prog 69 #[.slice (some ⟨g, 0, none⟩) 1 1, .int .i64 0] w (Row [] w) := by
  obtain ⟨i0, hi, hz0, hz1, hz2⟩ := info_parts Tryd.info80
  go_enter Tryd.func69, Tryd.ntmps69
  go_wp2_with fail
  refine (mul_0 _).mono ?_; rintro e w' ⟨rfl, rfl⟩
  go_upto_region 7 with (at_make; refine wpList_make_full _ rfl _ _ 77 rfl w'.heap.size 80 i0 _ 1 Tryd.underlying77 hi hz0 hz1 .i64 .i64 0 0 0 rfl rfl rfl rfl (by omega) (by unfold maxLen; omega) (Nat.le_refl _) ?_; intro w1 own1 grow1; have HB1 := hide (grown_below grow1); rw [made_0] at own1; have HG1 := hide (own_heap own1); clear own1 grow1)
  go_wp2_with (refine wpList_copy_nothing rfl (.tmp 31) (.tmp 32) 77 77 rfl 80 Tryd.underlying77 Tryd.size80 _ _ _ _ _ _ rfl rfl rfl ?_)
  go_loopw [8] (fun n wr => wr = w1 ∧ n = .int .i64 0) (fun _ _ => 0)
  case atStart => exact ⟨rfl, rfl⟩
  case round =>
    obtain ⟨rfl, rfl⟩ := hrel
    go_wp2_with fail
    go_ret
    exact ⟨HB1.out, w'.heap.size, 0, #[], (0, 0), rfl, by simp, by omega, Nat.le_refl _, HG1.out, fun k v hk => by simp at hk⟩
end Go.Proofs.YtkkkgennkhdfhaaDoor
