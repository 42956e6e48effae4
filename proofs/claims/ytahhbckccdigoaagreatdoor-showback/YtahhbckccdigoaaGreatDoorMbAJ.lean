/- The ways to read operands, one behind the other. -/
import Derived.Test.YtahhbckccdigoaaGreatDoorMbAG
import Derived.Test.YtahhbckccdigoaaGreatDoorMbAI
import Derived.Laws.MakeOwn
import Derived.Laws.CopyOwn
set_option maxHeartbeats 8000000
set_option maxRecDepth 20000
namespace Go.Proofs.YtahhbckccdigoaaGreatDoor
open Go Go.RowKit
open G (Tok Er Ins Fun peek0 peek1 atOf)
theorem mul64_0 (w : World) : Calls Tryz.prog 176 #[.int .u64 1, .int .u64 0] w fun e w' => e = .returned (.tuple #[.int .u64 0, .int .u64 0]) /\ w' = w := by
  go_enter Tryz.func176, Tryz.ntmps176
  go_wp2
  go_ret2
  exact ⟨rfl, rfl⟩
theorem mul64_1 (w : World) : Calls Tryz.prog 176 #[.int .u64 1, .int .u64 1] w fun e w' => e = .returned (.tuple #[.int .u64 0, .int .u64 1]) /\ w' = w := by
  go_enter Tryz.func176, Tryz.ntmps176
  go_wp2
  go_ret2
  exact ⟨rfl, rfl⟩
theorem mul64_2 (w : World) : Calls Tryz.prog 176 #[.int .u64 1, .int .u64 2] w fun e w' => e = .returned (.tuple #[.int .u64 0, .int .u64 2]) /\ w' = w := by
  go_enter Tryz.func176, Tryz.ntmps176
  go_wp2
  go_ret2
  exact ⟨rfl, rfl⟩
theorem mul_0 (w : World) : Calls Tryz.prog 170 #[.int .u64 1, .int .u64 0] w fun e w' => e = .returned (.tuple #[.int .u64 0, .int .u64 0]) /\ w' = w := by
  go_enter Tryz.func170, Tryz.ntmps170
  go_wp2_with fail
  refine (mul64_0 _).mono ?_; rintro e w' ⟨rfl, rfl⟩
  go_wp2_with fail
  go_ret2
  exact ⟨rfl, rfl⟩
theorem mul_1 (w : World) : Calls Tryz.prog 170 #[.int .u64 1, .int .u64 1] w fun e w' => e = .returned (.tuple #[.int .u64 0, .int .u64 1]) /\ w' = w := by
  go_enter Tryz.func170, Tryz.ntmps170
  go_wp2_with fail
  refine (mul64_1 _).mono ?_; rintro e w' ⟨rfl, rfl⟩
  go_wp2_with fail
  go_ret2
  exact ⟨rfl, rfl⟩
theorem mul_2 (w : World) : Calls Tryz.prog 170 #[.int .u64 1, .int .u64 2] w fun e w' => e = .returned (.tuple #[.int .u64 0, .int .u64 2]) /\ w' = w := by
  go_enter Tryz.func170, Tryz.ntmps170
  go_wp2_with fail
  refine (mul64_2 _).mono ?_; rintro e w' ⟨rfl, rfl⟩
  go_wp2_with fail
  go_ret2
  exact ⟨rfl, rfl⟩
def Row (fs : List Value) (w : World) (e : Ending) (w' : World) : Prop :=
  Below w.heap.size w w' /\ ∃ (g cap : Nat) (cs : Array Value) (fz : Nat × Nat), e = .returned (.slice (some ⟨g, 0, none⟩) fs.length cap) /\ fs.length <= cap /\ cap <= 8 /\ w.heap.size <= g /\ w'.heap[g]? = some (.cells cs 152 fz) /\ ∀ (k : Nat) (f : Value), fs[k]? = some f -> cs[k]? = some f
theorem Tryz.info152 : (Tryz.prog.info? 152).map (fun i => (i.zero, i.size, i.bytes)) = some (some .nilFunc, 1, 8) := by kernel_rfl
theorem Tryz.size152 : (Tryz.prog.info? 152).map (·.size) = some 1 := by kernel_rfl
theorem own_heap {w : World} {b g : Nat} {xs : List Value} (h : w.ownsRow b 152 1 (.slice (some ⟨g, 0, none⟩) xs.length xs.length) xs.length xs) : w.heap[g]? = some (.cells xs.toArray 152 (0, 0)) := by
  rcases h.2 with ⟨hv, _⟩ | ⟨g', cap, cur, hv, _, hh, _, _, hs, ht⟩
  . cases hv
  . cases hv
    rw [hh]
    have : cur.toList = xs := by rw [<- ht, List.take_of_length_le (by simp [hs])]
    rw [<- this]
theorem one_f {f : Value} (hf : f.oneCell' = true) : ∀ v ∈ [f], v.oneCell' = true := by
  intro v hv
  simp only [List.mem_singleton] at hv
  subst hv; exact hf
theorem one_at {w : World} {g : Nat} {f : Value} (h : w.cell? ⟨g, 0, none⟩ = some f) : ∀ (j : Nat) (v : Value), [f][j]? = some v -> w.cell? ((⟨g, 0, none⟩ : Addr).add j) = some v := by
  intro j v hj
  match j, hj with
  | 0, hj => simp at hj; subst hj; simpa [Addr.add] using h
theorem made_0 : (madeCells Value.nilFunc.cells (0 * 1)).toList = [] := by simp [madeCells]
theorem made_1 : (madeCells Value.nilFunc.cells (1 * 1)).toList = [.nilFunc] := by simp [madeCells, Value.cells]
theorem made_2 : (madeCells Value.nilFunc.cells (2 * 1)).toList = [.nilFunc, .nilFunc] := by simp [madeCells, Value.cells]; rfl
theorem grown_below {w w' : World} (h : w.grownBy w' none) : Below w.heap.size w w' := ⟨h.os, h.tape, h.output, h.size, fun k hk => h.block k hk (by simp)⟩
theorem repeat_2 (g : Nat) (f : Value) (w : World) (h : w.cell? ⟨g, 0, none⟩ = some f) (hf : f.oneCell' = true) : Calls Tryz.prog 162 #[.slice (some ⟨g, 0, none⟩) 1 1, .int .i64 2] w (Row [f, f] w) := by
  obtain ⟨i0, hi, hz0, hz1, hz2⟩ := info_parts Tryz.info152
  have hgl := World.block_lt_of_cell? w _ h
  go_enter Tryz.func162, Tryz.ntmps162
  go_wp2_with fail
  refine (mul_2 _).mono ?_; rintro e w' ⟨rfl, rfl⟩
  go_upto_region 7 with (at_make; refine wpList_make_full _ rfl _ _ 149 rfl w'.heap.size 152 i0 _ 1 Tryz.underlying149 hi hz0 hz1 .i64 .i64 2 2 2 rfl rfl rfl rfl (by omega) (by unfold maxLen; omega) (Nat.le_refl _) ?_; intro w1 own1 grow1; have HB1 := hide (grown_below grow1); rw [made_2] at own1; have HG1 := hide (own_heap own1); have hc1 := hide ((HB1.out.cell (p := ⟨g, 0, none⟩) hgl).trans h); clear own1 grow1)
  go_wp2_with (refine wpList_copy_splice rfl (.tmp 31) (.tmp 32) 149 149 rfl 152 Tryz.underlying149 Tryz.size152 _ _ _ _ _ _ rfl rfl w'.heap.size 0 [.nilFunc, .nilFunc] 152 HG1.out [f] rfl (fun _ => ⟨rfl, _, rfl, one_at hc1.out⟩) (by simp) (one_f hf) w'.heap.size w' HB1.out (Nat.le_refl _) ?_; intro w2 HG2 HB2; replace HB2 := hide HB2; replace HG2 : Hid (w2.heap[w'.heap.size]? = some (.cells #[f, .nilFunc] 152 (0, 0))) := HG2)
  go_loopw [8] (fun n wr => Below w'.heap.size w' wr /\ ((n = .int .i64 1 /\ Hid (wr.heap[w'.heap.size]? = some (.cells #[f, .nilFunc] 152 (0, 0)))) \/ (n = .int .i64 2 /\ Hid (wr.heap[w'.heap.size]? = some (.cells #[f, f] 152 (0, 0)))))) (fun n _ => 2 - (intOf n).toNat)
  case atStart => exact ⟨HB2.out, .inl ⟨rfl, HG2⟩⟩
  case round =>
    obtain ⟨HB, ⟨rfl, HG⟩ | ⟨rfl, HG⟩⟩ := hrel
    . have HB := hide HB
      have hc : wr.drew.cell? ⟨w'.heap.size, 0, none⟩ = some f := by
        show wr.cell? _ = _
        simp [World.cell?, HG.out]
      have HC := hide hc
      clear hc
      have hcp : Sem.run Tryz.prog (Builtin.copy_ #[149, 149] 3 #[.slice (some ⟨w'.heap.size, 1, none⟩) 1 1, .slice (some ⟨w'.heap.size, 0, none⟩) 1 2]) wr.drew = .ok (.int .i64 1) (wr.drew.setRow w'.heap.size #[f, f]) :=
        run_copy_row (P := Tryz.prog) wr.drew 149 149 3 152 w'.heap.size 1 1 1 ⟨w'.heap.size, 0, none⟩ 1 2 #[f, .nilFunc] 152 [f] Tryz.underlying149 Tryz.size152 HG.out rfl (one_at HC.out) (by simp) (one_f hf)
      have HG3 : Hid ((wr.drew.setRow w'.heap.size #[f, f]).heap[w'.heap.size]? = some (.cells #[f, f] 152 (0, 0))) := hide (setRow_heap wr.drew w'.heap.size _ _ 152 _ HG.out)
      have HB3 := hide (below_setRow HB.out.drew (Nat.le_refl _) #[f, f])
      generalize wr.drew.setRow w'.heap.size #[f, f] = w3 at *
      go_wp2_with fail
      go_region
      go_wp2_with fail
      go_roundw
      case rel => exact ⟨HB3.out, .inr ⟨rfl, HG3⟩⟩
      case measure => simp [intOf]
    . have HB := hide HB
      go_wp2_with fail
      go_ret
      exact ⟨HB.out, w'.heap.size, 2, #[f, f], (0, 0), rfl, by simp, by omega, Nat.le_refl _, HG.out, fun k v hk => by simpa using hk⟩
theorem repeat_1 (g : Nat) (f : Value) (w : World) (h : w.cell? ⟨g, 0, none⟩ = some f) (hf : f.oneCell' = true) : Calls Tryz.prog 162 #[.slice (some ⟨g, 0, none⟩) 1 1, .int .i64 1] w (Row [f] w) := by
  obtain ⟨i0, hi, hz0, hz1, hz2⟩ := info_parts Tryz.info152
  have hgl := World.block_lt_of_cell? w _ h
  go_enter Tryz.func162, Tryz.ntmps162
  go_wp2_with fail
  refine (mul_1 _).mono ?_; rintro e w' ⟨rfl, rfl⟩
  go_upto_region 7 with (at_make; refine wpList_make_full _ rfl _ _ 149 rfl w'.heap.size 152 i0 _ 1 Tryz.underlying149 hi hz0 hz1 .i64 .i64 1 1 1 rfl rfl rfl rfl (by omega) (by unfold maxLen; omega) (Nat.le_refl _) ?_; intro w1 own1 grow1; have HB1 := hide (grown_below grow1); rw [made_1] at own1; have HG1 := hide (own_heap own1); have hc1 := hide ((HB1.out.cell (p := ⟨g, 0, none⟩) hgl).trans h); clear own1 grow1)
  go_wp2_with (refine wpList_copy_splice rfl (.tmp 31) (.tmp 32) 149 149 rfl 152 Tryz.underlying149 Tryz.size152 _ _ _ _ _ _ rfl rfl w'.heap.size 0 [.nilFunc] 152 HG1.out [f] rfl (fun _ => ⟨rfl, _, rfl, one_at hc1.out⟩) (by simp) (one_f hf) w'.heap.size w' HB1.out (Nat.le_refl _) ?_; intro w2 HG2 HB2; replace HB2 := hide HB2; replace HG2 : Hid (w2.heap[w'.heap.size]? = some (.cells #[f] 152 (0, 0))) := HG2)
  go_loopw [8] (fun n wr => wr = w2 /\ n = .int .i64 1) (fun _ _ => 0)
  case atStart => exact ⟨rfl, rfl⟩
  case round =>
    obtain ⟨rfl, rfl⟩ := hrel
    go_wp2_with fail
    go_ret
    exact ⟨HB2.out, w'.heap.size, 1, #[f], (0, 0), rfl, by simp, by omega, Nat.le_refl _, HG2.out, fun k v hk => by simpa using hk⟩
theorem repeat_0 (g : Nat) (w : World) : Calls Tryz.prog 162 #[.slice (some ⟨g, 0, none⟩) 1 1, .int .i64 0] w (Row [] w) := by
  obtain ⟨i0, hi, hz0, hz1, hz2⟩ := info_parts Tryz.info152
  go_enter Tryz.func162, Tryz.ntmps162
  go_wp2_with fail
  refine (mul_0 _).mono ?_; rintro e w' ⟨rfl, rfl⟩
  go_upto_region 7 with (at_make; refine wpList_make_full _ rfl _ _ 149 rfl w'.heap.size 152 i0 _ 1 Tryz.underlying149 hi hz0 hz1 .i64 .i64 0 0 0 rfl rfl rfl rfl (by omega) (by unfold maxLen; omega) (Nat.le_refl _) ?_; intro w1 own1 grow1; have HB1 := hide (grown_below grow1); rw [made_0] at own1; have HG1 := hide (own_heap own1); clear own1 grow1)
  go_wp2_with (refine wpList_copy_nothing rfl (.tmp 31) (.tmp 32) 149 149 rfl 152 Tryz.underlying149 Tryz.size152 _ _ _ _ _ _ rfl rfl rfl ?_)
  go_loopw [8] (fun n wr => wr = w1 /\ n = .int .i64 0) (fun _ _ => 0)
  case atStart => exact ⟨rfl, rfl⟩
  case round =>
    obtain ⟨rfl, rfl⟩ := hrel
    go_wp2_with fail
    go_ret
    exact ⟨HB1.out, w'.heap.size, 0, #[], (0, 0), rfl, by simp, by omega, Nat.le_refl _, HG1.out, fun k v hk => by simp at hk⟩
end Go.Proofs.YtahhbckccdigoaaGreatDoor
namespace Go.Proofs.YtahhbckccdigoaaGreatDoor
open Go Go.RowKit
open G (Tok Er Ins Fun peek0 peek1 atOf)
def fv (a k : Nat) : Value := .func (Fn.func k) #[.pointer (some ⟨a, 0, none⟩)] #[]
def waysN : Int -> List Nat
  | 1 => [152]
  | 2 => [150, 150]
  | 3 => [150, 150]
  | 4 => [150, 150]
  | 5 => [150, 150]
  | 6 => [150, 150]
  | 7 => [150, 150]
  | 8 => []
  | 9 => [150, 150]
  | 10 => [153]
  | 11 => [150, 154]
  | 12 => [150, 154]
  | 13 => [150, 154, 150]
  | 14 => [150, 154, 150]
  | 15 => [150, 154]
  | 16 => [150]
  | 17 => [150]
  | 18 => [150, 150]
  | 19 => [150, 150]
  | 20 => [151, 150, 155]
  | 21 => [156, 157, 158]
  | 22 => [150]
  | 23 => [159]
  | 24 => [150, 159]
  | 25 => [150]
  | 26 => [151]
  | 27 => [150, 151, 151]
  | 28 => [160]
  | 29 => [161]
  | _ => []
theorem row_new {w : World} {fs : List Value} (h : fs.length <= 8) : Row fs w (.returned (.slice (some ⟨w.heap.size, 0, none⟩) fs.length fs.length)) (w.alloc (.cells fs.toArray 152)) :=
  ⟨below_box _ _, w.heap.size, fs.length, fs.toArray, (0, 0), rfl, Nat.le_refl _, h, Nat.le_refl _, heap_alloc_new w _, fun k f hk => by simpa using hk⟩
theorem ways_1 (a : Nat) (w : World) : Calls Tryz.prog 141 #[.pointer (some ⟨a, 0, none⟩), .int .i64 1] w (Row ((waysN 1).map (fv a)) w) := by
  have hmf := mkF
  have HR := hide (row_new (w := w) (fs := (waysN 1).map (fv a)) (by rw [List.length_map]; decide))
  go_enter Tryz.func141, Tryz.ntmps141
  go_wp2_with fail
  go_ret
  exact HR.out
theorem ways_10 (a : Nat) (w : World) : Calls Tryz.prog 141 #[.pointer (some ⟨a, 0, none⟩), .int .i64 10] w (Row ((waysN 10).map (fv a)) w) := by
  have hmf := mkF
  have HR := hide (row_new (w := w) (fs := (waysN 10).map (fv a)) (by rw [List.length_map]; decide))
  go_enter Tryz.func141, Tryz.ntmps141
  go_wp2_with fail
  go_ret
  exact HR.out
theorem ways_11 (a : Nat) (w : World) : Calls Tryz.prog 141 #[.pointer (some ⟨a, 0, none⟩), .int .i64 11] w (Row ((waysN 11).map (fv a)) w) := by
  have hmf := mkF
  have HR := hide (row_new (w := w) (fs := (waysN 11).map (fv a)) (by rw [List.length_map]; decide))
  go_enter Tryz.func141, Tryz.ntmps141
  go_wp2_with fail
  go_ret
  exact HR.out
theorem ways_12 (a : Nat) (w : World) : Calls Tryz.prog 141 #[.pointer (some ⟨a, 0, none⟩), .int .i64 12] w (Row ((waysN 12).map (fv a)) w) := by
  have hmf := mkF
  have HR := hide (row_new (w := w) (fs := (waysN 12).map (fv a)) (by rw [List.length_map]; decide))
  go_enter Tryz.func141, Tryz.ntmps141
  go_wp2_with fail
  go_ret
  exact HR.out
theorem ways_13 (a : Nat) (w : World) : Calls Tryz.prog 141 #[.pointer (some ⟨a, 0, none⟩), .int .i64 13] w (Row ((waysN 13).map (fv a)) w) := by
  have hmf := mkF
  have HR := hide (row_new (w := w) (fs := (waysN 13).map (fv a)) (by rw [List.length_map]; decide))
  go_enter Tryz.func141, Tryz.ntmps141
  go_wp2_with fail
  go_ret
  exact HR.out
theorem ways_14 (a : Nat) (w : World) : Calls Tryz.prog 141 #[.pointer (some ⟨a, 0, none⟩), .int .i64 14] w (Row ((waysN 14).map (fv a)) w) := by
  have hmf := mkF
  have HR := hide (row_new (w := w) (fs := (waysN 14).map (fv a)) (by rw [List.length_map]; decide))
  go_enter Tryz.func141, Tryz.ntmps141
  go_wp2_with fail
  go_ret
  exact HR.out
theorem ways_15 (a : Nat) (w : World) : Calls Tryz.prog 141 #[.pointer (some ⟨a, 0, none⟩), .int .i64 15] w (Row ((waysN 15).map (fv a)) w) := by
  have hmf := mkF
  have HR := hide (row_new (w := w) (fs := (waysN 15).map (fv a)) (by rw [List.length_map]; decide))
  go_enter Tryz.func141, Tryz.ntmps141
  go_wp2_with fail
  go_ret
  exact HR.out
theorem ways_20 (a : Nat) (w : World) : Calls Tryz.prog 141 #[.pointer (some ⟨a, 0, none⟩), .int .i64 20] w (Row ((waysN 20).map (fv a)) w) := by
  have hmf := mkF
  have HR := hide (row_new (w := w) (fs := (waysN 20).map (fv a)) (by rw [List.length_map]; decide))
  go_enter Tryz.func141, Tryz.ntmps141
  go_wp2_with fail
  go_ret
  exact HR.out
theorem ways_21 (a : Nat) (w : World) : Calls Tryz.prog 141 #[.pointer (some ⟨a, 0, none⟩), .int .i64 21] w (Row ((waysN 21).map (fv a)) w) := by
  have hmf := mkF
  have HR := hide (row_new (w := w) (fs := (waysN 21).map (fv a)) (by rw [List.length_map]; decide))
  go_enter Tryz.func141, Tryz.ntmps141
  go_wp2_with fail
  go_ret
  exact HR.out
theorem ways_23 (a : Nat) (w : World) : Calls Tryz.prog 141 #[.pointer (some ⟨a, 0, none⟩), .int .i64 23] w (Row ((waysN 23).map (fv a)) w) := by
  have hmf := mkF
  have HR := hide (row_new (w := w) (fs := (waysN 23).map (fv a)) (by rw [List.length_map]; decide))
  go_enter Tryz.func141, Tryz.ntmps141
  go_wp2_with fail
  go_ret
  exact HR.out
theorem ways_24 (a : Nat) (w : World) : Calls Tryz.prog 141 #[.pointer (some ⟨a, 0, none⟩), .int .i64 24] w (Row ((waysN 24).map (fv a)) w) := by
  have hmf := mkF
  have HR := hide (row_new (w := w) (fs := (waysN 24).map (fv a)) (by rw [List.length_map]; decide))
  go_enter Tryz.func141, Tryz.ntmps141
  go_wp2_with fail
  go_ret
  exact HR.out
theorem ways_26 (a : Nat) (w : World) : Calls Tryz.prog 141 #[.pointer (some ⟨a, 0, none⟩), .int .i64 26] w (Row ((waysN 26).map (fv a)) w) := by
  have hmf := mkF
  have HR := hide (row_new (w := w) (fs := (waysN 26).map (fv a)) (by rw [List.length_map]; decide))
  go_enter Tryz.func141, Tryz.ntmps141
  go_wp2_with fail
  go_ret
  exact HR.out
theorem ways_27 (a : Nat) (w : World) : Calls Tryz.prog 141 #[.pointer (some ⟨a, 0, none⟩), .int .i64 27] w (Row ((waysN 27).map (fv a)) w) := by
  have hmf := mkF
  have HR := hide (row_new (w := w) (fs := (waysN 27).map (fv a)) (by rw [List.length_map]; decide))
  go_enter Tryz.func141, Tryz.ntmps141
  go_wp2_with fail
  go_ret
  exact HR.out
theorem ways_28 (a : Nat) (w : World) : Calls Tryz.prog 141 #[.pointer (some ⟨a, 0, none⟩), .int .i64 28] w (Row ((waysN 28).map (fv a)) w) := by
  have hmf := mkF
  have HR := hide (row_new (w := w) (fs := (waysN 28).map (fv a)) (by rw [List.length_map]; decide))
  go_enter Tryz.func141, Tryz.ntmps141
  go_wp2_with fail
  go_ret
  exact HR.out
theorem ways_29 (a : Nat) (w : World) : Calls Tryz.prog 141 #[.pointer (some ⟨a, 0, none⟩), .int .i64 29] w (Row ((waysN 29).map (fv a)) w) := by
  have hmf := mkF
  have HR := hide (row_new (w := w) (fs := (waysN 29).map (fv a)) (by rw [List.length_map]; decide))
  go_enter Tryz.func141, Tryz.ntmps141
  go_wp2_with fail
  go_ret
  exact HR.out
theorem ways_2 (a : Nat) (w : World) (ht : L5.Tab w) : Calls Tryz.prog 141 #[.pointer (some ⟨a, 0, none⟩), .int .i64 2] w (Row ((waysN 2).map (fv a)) w) := by
  have hmf := mkF
  have T := hide (ht.below (below_box w (.cells #[fv a 150] 152)))
  have HC : Hid ((w.alloc (.cells #[fv a 150] 152)).cell? ⟨w.heap.size, 0, none⟩ = some (fv a 150)) := hide (by simp [go_sem])
  have HB := hide (below_box w (.cells #[fv a 150] 152))
  have HL : Hid ((L5.takes (L5.num 2)).length = 2) := hide (by decide)
  have hz : w.heap.size < (w.alloc (.cells #[fv a 150] 152)).heap.size := by simp
  clear ht
  go_enter Tryz.func141, Tryz.ntmps141
  go_wp2_with fail
  show Calls _ _ _ (w.alloc (.cells #[fv a 150] 152)) _
  generalize w.alloc (.cells #[fv a 150] 152) = W at *
  refine (L5.takes_any 2 _ T.out).mono ?_; rintro e w1 ⟨ao, cap, rfl, hS, b1⟩
  rw [HL.out]
  clear hS
  have HC1 := (b1.cell (p := ⟨w.heap.size, 0, none⟩) hz).trans HC.out
  go_wp2_with fail
  refine (repeat_2 _ (fv a 150) _ HC1 rfl).mono ?_; rintro e w2 ⟨b2, g, cp, cs, fz, rfl, h3, h4, h5, h6, h7⟩
  replace h6 := hide h6
  go_wp2_with fail
  go_ret
  exact ⟨below_step (below_step HB.out b1) b2, g, cp, cs, fz, rfl, h3, h4, Nat.le_trans HB.out.size (Nat.le_trans b1.size h5), h6.out, h7⟩
theorem ways_3 (a : Nat) (w : World) (ht : L5.Tab w) : Calls Tryz.prog 141 #[.pointer (some ⟨a, 0, none⟩), .int .i64 3] w (Row ((waysN 3).map (fv a)) w) := by
  have hmf := mkF
  have T := hide (ht.below (below_box w (.cells #[fv a 150] 152)))
  have HC : Hid ((w.alloc (.cells #[fv a 150] 152)).cell? ⟨w.heap.size, 0, none⟩ = some (fv a 150)) := hide (by simp [go_sem])
  have HB := hide (below_box w (.cells #[fv a 150] 152))
  have HL : Hid ((L5.takes (L5.num 3)).length = 2) := hide (by decide)
  have hz : w.heap.size < (w.alloc (.cells #[fv a 150] 152)).heap.size := by simp
  clear ht
  go_enter Tryz.func141, Tryz.ntmps141
  go_wp2_with fail
  show Calls _ _ _ (w.alloc (.cells #[fv a 150] 152)) _
  generalize w.alloc (.cells #[fv a 150] 152) = W at *
  refine (L5.takes_any 3 _ T.out).mono ?_; rintro e w1 ⟨ao, cap, rfl, hS, b1⟩
  rw [HL.out]
  clear hS
  have HC1 := (b1.cell (p := ⟨w.heap.size, 0, none⟩) hz).trans HC.out
  go_wp2_with fail
  refine (repeat_2 _ (fv a 150) _ HC1 rfl).mono ?_; rintro e w2 ⟨b2, g, cp, cs, fz, rfl, h3, h4, h5, h6, h7⟩
  replace h6 := hide h6
  go_wp2_with fail
  go_ret
  exact ⟨below_step (below_step HB.out b1) b2, g, cp, cs, fz, rfl, h3, h4, Nat.le_trans HB.out.size (Nat.le_trans b1.size h5), h6.out, h7⟩
theorem ways_4 (a : Nat) (w : World) (ht : L5.Tab w) : Calls Tryz.prog 141 #[.pointer (some ⟨a, 0, none⟩), .int .i64 4] w (Row ((waysN 4).map (fv a)) w) := by
  have hmf := mkF
  have T := hide (ht.below (below_box w (.cells #[fv a 150] 152)))
  have HC : Hid ((w.alloc (.cells #[fv a 150] 152)).cell? ⟨w.heap.size, 0, none⟩ = some (fv a 150)) := hide (by simp [go_sem])
  have HB := hide (below_box w (.cells #[fv a 150] 152))
  have HL : Hid ((L5.takes (L5.num 4)).length = 2) := hide (by decide)
  have hz : w.heap.size < (w.alloc (.cells #[fv a 150] 152)).heap.size := by simp
  clear ht
  go_enter Tryz.func141, Tryz.ntmps141
  go_wp2_with fail
  show Calls _ _ _ (w.alloc (.cells #[fv a 150] 152)) _
  generalize w.alloc (.cells #[fv a 150] 152) = W at *
  refine (L5.takes_any 4 _ T.out).mono ?_; rintro e w1 ⟨ao, cap, rfl, hS, b1⟩
  rw [HL.out]
  clear hS
  have HC1 := (b1.cell (p := ⟨w.heap.size, 0, none⟩) hz).trans HC.out
  go_wp2_with fail
  refine (repeat_2 _ (fv a 150) _ HC1 rfl).mono ?_; rintro e w2 ⟨b2, g, cp, cs, fz, rfl, h3, h4, h5, h6, h7⟩
  replace h6 := hide h6
  go_wp2_with fail
  go_ret
  exact ⟨below_step (below_step HB.out b1) b2, g, cp, cs, fz, rfl, h3, h4, Nat.le_trans HB.out.size (Nat.le_trans b1.size h5), h6.out, h7⟩
theorem ways_5 (a : Nat) (w : World) (ht : L5.Tab w) : Calls Tryz.prog 141 #[.pointer (some ⟨a, 0, none⟩), .int .i64 5] w (Row ((waysN 5).map (fv a)) w) := by
  have hmf := mkF
  have T := hide (ht.below (below_box w (.cells #[fv a 150] 152)))
  have HC : Hid ((w.alloc (.cells #[fv a 150] 152)).cell? ⟨w.heap.size, 0, none⟩ = some (fv a 150)) := hide (by simp [go_sem])
  have HB := hide (below_box w (.cells #[fv a 150] 152))
  have HL : Hid ((L5.takes (L5.num 5)).length = 2) := hide (by decide)
  have hz : w.heap.size < (w.alloc (.cells #[fv a 150] 152)).heap.size := by simp
  clear ht
  go_enter Tryz.func141, Tryz.ntmps141
  go_wp2_with fail
  show Calls _ _ _ (w.alloc (.cells #[fv a 150] 152)) _
  generalize w.alloc (.cells #[fv a 150] 152) = W at *
  refine (L5.takes_any 5 _ T.out).mono ?_; rintro e w1 ⟨ao, cap, rfl, hS, b1⟩
  rw [HL.out]
  clear hS
  have HC1 := (b1.cell (p := ⟨w.heap.size, 0, none⟩) hz).trans HC.out
  go_wp2_with fail
  refine (repeat_2 _ (fv a 150) _ HC1 rfl).mono ?_; rintro e w2 ⟨b2, g, cp, cs, fz, rfl, h3, h4, h5, h6, h7⟩
  replace h6 := hide h6
  go_wp2_with fail
  go_ret
  exact ⟨below_step (below_step HB.out b1) b2, g, cp, cs, fz, rfl, h3, h4, Nat.le_trans HB.out.size (Nat.le_trans b1.size h5), h6.out, h7⟩
theorem ways_6 (a : Nat) (w : World) (ht : L5.Tab w) : Calls Tryz.prog 141 #[.pointer (some ⟨a, 0, none⟩), .int .i64 6] w (Row ((waysN 6).map (fv a)) w) := by
  have hmf := mkF
  have T := hide (ht.below (below_box w (.cells #[fv a 150] 152)))
  have HC : Hid ((w.alloc (.cells #[fv a 150] 152)).cell? ⟨w.heap.size, 0, none⟩ = some (fv a 150)) := hide (by simp [go_sem])
  have HB := hide (below_box w (.cells #[fv a 150] 152))
  have HL : Hid ((L5.takes (L5.num 6)).length = 2) := hide (by decide)
  have hz : w.heap.size < (w.alloc (.cells #[fv a 150] 152)).heap.size := by simp
  clear ht
  go_enter Tryz.func141, Tryz.ntmps141
  go_wp2_with fail
  show Calls _ _ _ (w.alloc (.cells #[fv a 150] 152)) _
  generalize w.alloc (.cells #[fv a 150] 152) = W at *
  refine (L5.takes_any 6 _ T.out).mono ?_; rintro e w1 ⟨ao, cap, rfl, hS, b1⟩
  rw [HL.out]
  clear hS
  have HC1 := (b1.cell (p := ⟨w.heap.size, 0, none⟩) hz).trans HC.out
  go_wp2_with fail
  refine (repeat_2 _ (fv a 150) _ HC1 rfl).mono ?_; rintro e w2 ⟨b2, g, cp, cs, fz, rfl, h3, h4, h5, h6, h7⟩
  replace h6 := hide h6
  go_wp2_with fail
  go_ret
  exact ⟨below_step (below_step HB.out b1) b2, g, cp, cs, fz, rfl, h3, h4, Nat.le_trans HB.out.size (Nat.le_trans b1.size h5), h6.out, h7⟩
theorem ways_7 (a : Nat) (w : World) (ht : L5.Tab w) : Calls Tryz.prog 141 #[.pointer (some ⟨a, 0, none⟩), .int .i64 7] w (Row ((waysN 7).map (fv a)) w) := by
  have hmf := mkF
  have T := hide (ht.below (below_box w (.cells #[fv a 150] 152)))
  have HC : Hid ((w.alloc (.cells #[fv a 150] 152)).cell? ⟨w.heap.size, 0, none⟩ = some (fv a 150)) := hide (by simp [go_sem])
  have HB := hide (below_box w (.cells #[fv a 150] 152))
  have HL : Hid ((L5.takes (L5.num 7)).length = 2) := hide (by decide)
  have hz : w.heap.size < (w.alloc (.cells #[fv a 150] 152)).heap.size := by simp
  clear ht
  go_enter Tryz.func141, Tryz.ntmps141
  go_wp2_with fail
  show Calls _ _ _ (w.alloc (.cells #[fv a 150] 152)) _
  generalize w.alloc (.cells #[fv a 150] 152) = W at *
  refine (L5.takes_any 7 _ T.out).mono ?_; rintro e w1 ⟨ao, cap, rfl, hS, b1⟩
  rw [HL.out]
  clear hS
  have HC1 := (b1.cell (p := ⟨w.heap.size, 0, none⟩) hz).trans HC.out
  go_wp2_with fail
  refine (repeat_2 _ (fv a 150) _ HC1 rfl).mono ?_; rintro e w2 ⟨b2, g, cp, cs, fz, rfl, h3, h4, h5, h6, h7⟩
  replace h6 := hide h6
  go_wp2_with fail
  go_ret
  exact ⟨below_step (below_step HB.out b1) b2, g, cp, cs, fz, rfl, h3, h4, Nat.le_trans HB.out.size (Nat.le_trans b1.size h5), h6.out, h7⟩
theorem ways_8 (a : Nat) (w : World) (ht : L5.Tab w) : Calls Tryz.prog 141 #[.pointer (some ⟨a, 0, none⟩), .int .i64 8] w (Row ((waysN 8).map (fv a)) w) := by
  have hmf := mkF
  have T := hide (ht.below (below_box w (.cells #[fv a 150] 152)))
  have HC : Hid ((w.alloc (.cells #[fv a 150] 152)).cell? ⟨w.heap.size, 0, none⟩ = some (fv a 150)) := hide (by simp [go_sem])
  have HB := hide (below_box w (.cells #[fv a 150] 152))
  have HL : Hid ((L5.takes (L5.num 8)).length = 0) := hide (by decide)
  have hz : w.heap.size < (w.alloc (.cells #[fv a 150] 152)).heap.size := by simp
  clear ht
  go_enter Tryz.func141, Tryz.ntmps141
  go_wp2_with fail
  show Calls _ _ _ (w.alloc (.cells #[fv a 150] 152)) _
  generalize w.alloc (.cells #[fv a 150] 152) = W at *
  refine (L5.takes_any 8 _ T.out).mono ?_; rintro e w1 ⟨ao, cap, rfl, hS, b1⟩
  rw [HL.out]
  clear hS
  have HC1 := (b1.cell (p := ⟨w.heap.size, 0, none⟩) hz).trans HC.out
  go_wp2_with fail
  refine (repeat_0 _ _).mono ?_; rintro e w2 ⟨b2, g, cp, cs, fz, rfl, h3, h4, h5, h6, h7⟩
  replace h6 := hide h6
  go_wp2_with fail
  go_ret
  exact ⟨below_step (below_step HB.out b1) b2, g, cp, cs, fz, rfl, h3, h4, Nat.le_trans HB.out.size (Nat.le_trans b1.size h5), h6.out, h7⟩
theorem ways_9 (a : Nat) (w : World) (ht : L5.Tab w) : Calls Tryz.prog 141 #[.pointer (some ⟨a, 0, none⟩), .int .i64 9] w (Row ((waysN 9).map (fv a)) w) := by
  have hmf := mkF
  have T := hide (ht.below (below_box w (.cells #[fv a 150] 152)))
  have HC : Hid ((w.alloc (.cells #[fv a 150] 152)).cell? ⟨w.heap.size, 0, none⟩ = some (fv a 150)) := hide (by simp [go_sem])
  have HB := hide (below_box w (.cells #[fv a 150] 152))
  have HL : Hid ((L5.takes (L5.num 9)).length = 2) := hide (by decide)
  have hz : w.heap.size < (w.alloc (.cells #[fv a 150] 152)).heap.size := by simp
  clear ht
  go_enter Tryz.func141, Tryz.ntmps141
  go_wp2_with fail
  show Calls _ _ _ (w.alloc (.cells #[fv a 150] 152)) _
  generalize w.alloc (.cells #[fv a 150] 152) = W at *
  refine (L5.takes_any 9 _ T.out).mono ?_; rintro e w1 ⟨ao, cap, rfl, hS, b1⟩
  rw [HL.out]
  clear hS
  have HC1 := (b1.cell (p := ⟨w.heap.size, 0, none⟩) hz).trans HC.out
  go_wp2_with fail
  refine (repeat_2 _ (fv a 150) _ HC1 rfl).mono ?_; rintro e w2 ⟨b2, g, cp, cs, fz, rfl, h3, h4, h5, h6, h7⟩
  replace h6 := hide h6
  go_wp2_with fail
  go_ret
  exact ⟨below_step (below_step HB.out b1) b2, g, cp, cs, fz, rfl, h3, h4, Nat.le_trans HB.out.size (Nat.le_trans b1.size h5), h6.out, h7⟩
theorem ways_16 (a : Nat) (w : World) (ht : L5.Tab w) : Calls Tryz.prog 141 #[.pointer (some ⟨a, 0, none⟩), .int .i64 16] w (Row ((waysN 16).map (fv a)) w) := by
  have hmf := mkF
  have T := hide (ht.below (below_box w (.cells #[fv a 150] 152)))
  have HC : Hid ((w.alloc (.cells #[fv a 150] 152)).cell? ⟨w.heap.size, 0, none⟩ = some (fv a 150)) := hide (by simp [go_sem])
  have HB := hide (below_box w (.cells #[fv a 150] 152))
  have HL : Hid ((L5.takes (L5.num 16)).length = 1) := hide (by decide)
  have hz : w.heap.size < (w.alloc (.cells #[fv a 150] 152)).heap.size := by simp
  clear ht
  go_enter Tryz.func141, Tryz.ntmps141
  go_wp2_with fail
  show Calls _ _ _ (w.alloc (.cells #[fv a 150] 152)) _
  generalize w.alloc (.cells #[fv a 150] 152) = W at *
  refine (L5.takes_any 16 _ T.out).mono ?_; rintro e w1 ⟨ao, cap, rfl, hS, b1⟩
  rw [HL.out]
  clear hS
  have HC1 := (b1.cell (p := ⟨w.heap.size, 0, none⟩) hz).trans HC.out
  go_wp2_with fail
  refine (repeat_1 _ (fv a 150) _ HC1 rfl).mono ?_; rintro e w2 ⟨b2, g, cp, cs, fz, rfl, h3, h4, h5, h6, h7⟩
  replace h6 := hide h6
  go_wp2_with fail
  go_ret
  exact ⟨below_step (below_step HB.out b1) b2, g, cp, cs, fz, rfl, h3, h4, Nat.le_trans HB.out.size (Nat.le_trans b1.size h5), h6.out, h7⟩
theorem ways_17 (a : Nat) (w : World) (ht : L5.Tab w) : Calls Tryz.prog 141 #[.pointer (some ⟨a, 0, none⟩), .int .i64 17] w (Row ((waysN 17).map (fv a)) w) := by
  have hmf := mkF
  have T := hide (ht.below (below_box w (.cells #[fv a 150] 152)))
  have HC : Hid ((w.alloc (.cells #[fv a 150] 152)).cell? ⟨w.heap.size, 0, none⟩ = some (fv a 150)) := hide (by simp [go_sem])
  have HB := hide (below_box w (.cells #[fv a 150] 152))
  have HL : Hid ((L5.takes (L5.num 17)).length = 1) := hide (by decide)
  have hz : w.heap.size < (w.alloc (.cells #[fv a 150] 152)).heap.size := by simp
  clear ht
  go_enter Tryz.func141, Tryz.ntmps141
  go_wp2_with fail
  show Calls _ _ _ (w.alloc (.cells #[fv a 150] 152)) _
  generalize w.alloc (.cells #[fv a 150] 152) = W at *
  refine (L5.takes_any 17 _ T.out).mono ?_; rintro e w1 ⟨ao, cap, rfl, hS, b1⟩
  rw [HL.out]
  clear hS
  have HC1 := (b1.cell (p := ⟨w.heap.size, 0, none⟩) hz).trans HC.out
  go_wp2_with fail
  refine (repeat_1 _ (fv a 150) _ HC1 rfl).mono ?_; rintro e w2 ⟨b2, g, cp, cs, fz, rfl, h3, h4, h5, h6, h7⟩
  replace h6 := hide h6
  go_wp2_with fail
  go_ret
  exact ⟨below_step (below_step HB.out b1) b2, g, cp, cs, fz, rfl, h3, h4, Nat.le_trans HB.out.size (Nat.le_trans b1.size h5), h6.out, h7⟩
theorem ways_18 (a : Nat) (w : World) (ht : L5.Tab w) : Calls Tryz.prog 141 #[.pointer (some ⟨a, 0, none⟩), .int .i64 18] w (Row ((waysN 18).map (fv a)) w) := by
  have hmf := mkF
  have T := hide (ht.below (below_box w (.cells #[fv a 150] 152)))
  have HC : Hid ((w.alloc (.cells #[fv a 150] 152)).cell? ⟨w.heap.size, 0, none⟩ = some (fv a 150)) := hide (by simp [go_sem])
  have HB := hide (below_box w (.cells #[fv a 150] 152))
  have HL : Hid ((L5.takes (L5.num 18)).length = 2) := hide (by decide)
  have hz : w.heap.size < (w.alloc (.cells #[fv a 150] 152)).heap.size := by simp
  clear ht
  go_enter Tryz.func141, Tryz.ntmps141
  go_wp2_with fail
  show Calls _ _ _ (w.alloc (.cells #[fv a 150] 152)) _
  generalize w.alloc (.cells #[fv a 150] 152) = W at *
  refine (L5.takes_any 18 _ T.out).mono ?_; rintro e w1 ⟨ao, cap, rfl, hS, b1⟩
  rw [HL.out]
  clear hS
  have HC1 := (b1.cell (p := ⟨w.heap.size, 0, none⟩) hz).trans HC.out
  go_wp2_with fail
  refine (repeat_2 _ (fv a 150) _ HC1 rfl).mono ?_; rintro e w2 ⟨b2, g, cp, cs, fz, rfl, h3, h4, h5, h6, h7⟩
  replace h6 := hide h6
  go_wp2_with fail
  go_ret
  exact ⟨below_step (below_step HB.out b1) b2, g, cp, cs, fz, rfl, h3, h4, Nat.le_trans HB.out.size (Nat.le_trans b1.size h5), h6.out, h7⟩
theorem ways_19 (a : Nat) (w : World) (ht : L5.Tab w) : Calls Tryz.prog 141 #[.pointer (some ⟨a, 0, none⟩), .int .i64 19] w (Row ((waysN 19).map (fv a)) w) := by
  have hmf := mkF
  have T := hide (ht.below (below_box w (.cells #[fv a 150] 152)))
  have HC : Hid ((w.alloc (.cells #[fv a 150] 152)).cell? ⟨w.heap.size, 0, none⟩ = some (fv a 150)) := hide (by simp [go_sem])
  have HB := hide (below_box w (.cells #[fv a 150] 152))
  have HL : Hid ((L5.takes (L5.num 19)).length = 2) := hide (by decide)
  have hz : w.heap.size < (w.alloc (.cells #[fv a 150] 152)).heap.size := by simp
  clear ht
  go_enter Tryz.func141, Tryz.ntmps141
  go_wp2_with fail
  show Calls _ _ _ (w.alloc (.cells #[fv a 150] 152)) _
  generalize w.alloc (.cells #[fv a 150] 152) = W at *
  refine (L5.takes_any 19 _ T.out).mono ?_; rintro e w1 ⟨ao, cap, rfl, hS, b1⟩
  rw [HL.out]
  clear hS
  have HC1 := (b1.cell (p := ⟨w.heap.size, 0, none⟩) hz).trans HC.out
  go_wp2_with fail
  refine (repeat_2 _ (fv a 150) _ HC1 rfl).mono ?_; rintro e w2 ⟨b2, g, cp, cs, fz, rfl, h3, h4, h5, h6, h7⟩
  replace h6 := hide h6
  go_wp2_with fail
  go_ret
  exact ⟨below_step (below_step HB.out b1) b2, g, cp, cs, fz, rfl, h3, h4, Nat.le_trans HB.out.size (Nat.le_trans b1.size h5), h6.out, h7⟩
theorem ways_22 (a : Nat) (w : World) (ht : L5.Tab w) : Calls Tryz.prog 141 #[.pointer (some ⟨a, 0, none⟩), .int .i64 22] w (Row ((waysN 22).map (fv a)) w) := by
  have hmf := mkF
  have T := hide (ht.below (below_box w (.cells #[fv a 150] 152)))
  have HC : Hid ((w.alloc (.cells #[fv a 150] 152)).cell? ⟨w.heap.size, 0, none⟩ = some (fv a 150)) := hide (by simp [go_sem])
  have HB := hide (below_box w (.cells #[fv a 150] 152))
  have HL : Hid ((L5.takes (L5.num 22)).length = 1) := hide (by decide)
  have hz : w.heap.size < (w.alloc (.cells #[fv a 150] 152)).heap.size := by simp
  clear ht
  go_enter Tryz.func141, Tryz.ntmps141
  go_wp2_with fail
  show Calls _ _ _ (w.alloc (.cells #[fv a 150] 152)) _
  generalize w.alloc (.cells #[fv a 150] 152) = W at *
  refine (L5.takes_any 22 _ T.out).mono ?_; rintro e w1 ⟨ao, cap, rfl, hS, b1⟩
  rw [HL.out]
  clear hS
  have HC1 := (b1.cell (p := ⟨w.heap.size, 0, none⟩) hz).trans HC.out
  go_wp2_with fail
  refine (repeat_1 _ (fv a 150) _ HC1 rfl).mono ?_; rintro e w2 ⟨b2, g, cp, cs, fz, rfl, h3, h4, h5, h6, h7⟩
  replace h6 := hide h6
  go_wp2_with fail
  go_ret
  exact ⟨below_step (below_step HB.out b1) b2, g, cp, cs, fz, rfl, h3, h4, Nat.le_trans HB.out.size (Nat.le_trans b1.size h5), h6.out, h7⟩
theorem ways_25 (a : Nat) (w : World) (ht : L5.Tab w) : Calls Tryz.prog 141 #[.pointer (some ⟨a, 0, none⟩), .int .i64 25] w (Row ((waysN 25).map (fv a)) w) := by
  have hmf := mkF
  have T := hide (ht.below (below_box w (.cells #[fv a 150] 152)))
  have HC : Hid ((w.alloc (.cells #[fv a 150] 152)).cell? ⟨w.heap.size, 0, none⟩ = some (fv a 150)) := hide (by simp [go_sem])
  have HB := hide (below_box w (.cells #[fv a 150] 152))
  have HL : Hid ((L5.takes (L5.num 25)).length = 1) := hide (by decide)
  have hz : w.heap.size < (w.alloc (.cells #[fv a 150] 152)).heap.size := by simp
  clear ht
  go_enter Tryz.func141, Tryz.ntmps141
  go_wp2_with fail
  show Calls _ _ _ (w.alloc (.cells #[fv a 150] 152)) _
  generalize w.alloc (.cells #[fv a 150] 152) = W at *
  refine (L5.takes_any 25 _ T.out).mono ?_; rintro e w1 ⟨ao, cap, rfl, hS, b1⟩
  rw [HL.out]
  clear hS
  have HC1 := (b1.cell (p := ⟨w.heap.size, 0, none⟩) hz).trans HC.out
  go_wp2_with fail
  refine (repeat_1 _ (fv a 150) _ HC1 rfl).mono ?_; rintro e w2 ⟨b2, g, cp, cs, fz, rfl, h3, h4, h5, h6, h7⟩
  replace h6 := hide h6
  go_wp2_with fail
  go_ret
  exact ⟨below_step (below_step HB.out b1) b2, g, cp, cs, fz, rfl, h3, h4, Nat.le_trans HB.out.size (Nat.le_trans b1.size h5), h6.out, h7⟩
end Go.Proofs.YtahhbckccdigoaaGreatDoor
namespace Go.Proofs.YtahhbckccdigoaaGreatDoor
open Go Go.RowKit
open G (Tok Er Ins Fun peek0 peek1 atOf)
def numberW (E : Int) : Way := fun x l => byWord x setN (G.anyNum numF E l)
def lettersW (E : Int) : Way := fun x l => byWord x setName (G.shaped shpF E l)
def uptoW (E most : Int) : Way := fun x l => byWord x setN (G.number numF E 0 most l)
def calleeW (E : Int) : Way := fun x l => byWord x setName (G.name namF E l)
def wayW (E : Int) : Nat -> Way
  | 150 => valueW E
  | 151 => labelW E
  | 152 => numberW E
  | 153 => lettersW E
  | 154 => uptoW E 15
  | 155 => morePairsW E
  | 156 => perhapsPointW E
  | 157 => calleeW E
  | 158 => moreValuesW E
  | 159 => uptoW E 1048576
  | 160 => perhapsValueW E
  | 161 => uptoW E 255
  | _ => fun x l => .ok (x, l)
def runW (E : Int) : List Nat -> Way
  | [] => fun x l => .ok (x, l)
  | k :: r => fun x l => G.andThen (wayW E k x l) (runW E r)
theorem keep_bulk {α : Type} {r : Except Er (α × List Tok)} {g : Ins -> α -> Ins} {x x' : Ins} {l l' : List Tok} (hr : ∀ v l', r = .ok (v, l') -> l' <:+ l) (hg : ∀ v, (g x v).2.2.2.2.1 = x.2.2.2.2.1 /\ (g x v).2.2.2.2.2.1 = x.2.2.2.2.2.1) (h : byWord x g r = .ok (x', l')) : bulk x' l' <= bulk x l := by
  obtain ⟨v, h1, rfl⟩ := byWord_ok h
  have := (hr v l' h1).length_le
  unfold bulk
  rw [(hg v).1, (hg v).2]
  omega
theorem moreV_bulk {E : Int} : ∀ (f : Nat) (x x' : Ins) (l l' : List Tok), moreV E f x l = .ok (x', l') -> bulk x' l' <= bulk x l := by
  intro f
  induction f with
  | zero => intro x x' l l' h; cases h; exact Nat.le_refl _
  | succ f ih =>
    intro x x' l l' h
    cases ht : G.taken l with
    | false => rw [moreV_stop ht] at h; cases h; exact Nat.le_refl _
    | true =>
      cases hv : valueW E x l with
      | error er => rw [moreV_bad ht hv] at h; cases h
      | ok p =>
        obtain ⟨x1, l1⟩ := p
        rw [moreV_go ht hv] at h
        have := ih _ _ _ _ h
        have := valueW_bulk hv
        omega
theorem pairV_bulk {E : Int} : ∀ (f : Nat) (x x' : Ins) (l l' : List Tok), pairV E f x l = .ok (x', l') -> bulk x' l' <= bulk x l := by
  intro f
  induction f with
  | zero => intro x x' l l' h; cases h; exact Nat.le_refl _
  | succ f ih =>
    intro x x' l l' h
    cases ht : G.paired l with
    | false => rw [pairV_stop ht] at h; cases h; exact Nat.le_refl _
    | true =>
      cases hb : labelW E x l with
      | error er => rw [pairV_badL ht hb] at h; cases h
      | ok p =>
        obtain ⟨x1, l1⟩ := p
        cases hv : valueW E x1 l1 with
        | error er => rw [pairV_badV ht hb hv] at h; cases h
        | ok p =>
          obtain ⟨x2, l2⟩ := p
          rw [pairV_go ht hb hv] at h
          have := ih _ _ _ _ h
          have := labelW_bulk hb
          have := valueW_bulk hv
          omega
theorem wayW_bulk {E : Int} {k : Nat} {x x' : Ins} {l l' : List Tok} (h : wayW E k x l = .ok (x', l')) : bulk x' l' <= bulk x l := by
  unfold wayW at h
  split at h
  . exact Nat.le_of_eq (valueW_bulk h).1
  . exact Nat.le_of_eq (labelW_bulk h).1
  . exact keep_bulk (g := setN) (fun v l' h => (G.anyNum_sim (d := 0) (m := []) (E' := E) num_nil l v l' h).1) (fun _ => ⟨rfl, rfl⟩) h
  . exact keep_bulk (g := setName) (fun v l' h => (G.shaped_sim (d := 0) (m := []) (E' := E) shp_nil l v l' h).1) (fun _ => ⟨rfl, rfl⟩) h
  . exact keep_bulk (g := setN) (fun v l' h => (G.number_sim (d := 0) (m := []) (E' := E) num_nil l v l' h).1) (fun _ => ⟨rfl, rfl⟩) h
  . exact pairV_bulk _ _ _ _ _ h
  . unfold perhapsPointW at h
    split at h
    . exact keep_bulk (g := setN) (fun v l' h => (G.index_sim (d := 0) (m := []) (E' := E) l v l' h).1) (fun _ => ⟨rfl, rfl⟩) h
    . cases h; exact Nat.le_refl _
  . exact keep_bulk (g := setName) (fun v l' h => (G.name_sim (d := 0) (m := []) (E' := E) nam_nil l v l' h).1) (fun _ => ⟨rfl, rfl⟩) h
  . exact moreV_bulk _ _ _ _ _ h
  . exact keep_bulk (g := setN) (fun v l' h => (G.number_sim (d := 0) (m := []) (E' := E) num_nil l v l' h).1) (fun _ => ⟨rfl, rfl⟩) h
  . unfold perhapsValueW at h
    split at h
    . exact Nat.le_of_eq (valueW_bulk h).1
    . cases h; exact Nat.le_refl _
  . exact keep_bulk (g := setN) (fun v l' h => (G.number_sim (d := 0) (m := []) (E' := E) num_nil l v l' h).1) (fun _ => ⟨rfl, rfl⟩) h
  . cases h; exact Nat.le_refl _
theorem way_any {B a c : Nat} {L : List Tok} {E : Int} {n : Nat} {l : List Tok} {x : Ins} (k : Nat) (hk : 150 <= k /\ k <= 161) (w : World) (h : Rdr B a L E n l w) (hi : InsAt B c x w) (ht : Tabs w) (h2 : 2 <= a) (hf : bulk x l <= L.length) :
    Calls Tryz.prog k #[.pointer (some ⟨a, 0, none⟩), .pointer (some ⟨c, 0, none⟩)] w (Step B a c L E n (wayW E k x l) w) := by
  have hL := h.suffix.2.1
  have hl1 : x.2.2.2.2.1.length <= 131072 := by unfold bulk at hf; omega
  have hl2 : x.2.2.2.2.2.1.length <= 131072 := by unfold bulk at hf; omega
  obtain rfl | rfl | rfl | rfl | rfl | rfl | rfl | rfl | rfl | rfl | rfl | rfl : k = 150 \/ k = 151 \/ k = 152 \/ k = 153 \/ k = 154 \/ k = 155 \/ k = 156 \/ k = 157 \/ k = 158 \/ k = 159 \/ k = 160 \/ k = 161 := by omega
  . exact value_step w h hi hl1
  . exact label_step w h hi hl2
  . exact number_step w h hi
  . exact letters_step w h hi ht h2
  . exact slot_step w h hi
  . exact morePairs_step w h hi hf
  . exact perhapsPoint_step w h hi
  . exact callee_step w h hi
  . exact moreValues_step w h hi hf
  . exact point_step w h hi
  . exact perhapsValue_step w h hi hf
  . exact trap_step w h hi
theorem operands_any (op : Int) (ho : 1 <= op /\ op <= 29) (a : Nat) (w : World) (ht : L5.Tab w) : Calls Tryz.prog 141 #[.pointer (some ⟨a, 0, none⟩), .int .i64 op] w (Row ((waysN op).map (fv a)) w) := by
  obtain rfl | rfl | rfl | rfl | rfl | rfl | rfl | rfl | rfl | rfl | rfl | rfl | rfl | rfl | rfl | rfl | rfl | rfl | rfl | rfl | rfl | rfl | rfl | rfl | rfl | rfl | rfl | rfl | rfl : op = 1 \/ op = 2 \/ op = 3 \/ op = 4 \/ op = 5 \/ op = 6 \/ op = 7 \/ op = 8 \/ op = 9 \/ op = 10 \/ op = 11 \/ op = 12 \/ op = 13 \/ op = 14 \/ op = 15 \/ op = 16 \/ op = 17 \/ op = 18 \/ op = 19 \/ op = 20 \/ op = 21 \/ op = 22 \/ op = 23 \/ op = 24 \/ op = 25 \/ op = 26 \/ op = 27 \/ op = 28 \/ op = 29 := by omega
  . exact ways_1 a w
  . exact ways_2 a w ht
  . exact ways_3 a w ht
  . exact ways_4 a w ht
  . exact ways_5 a w ht
  . exact ways_6 a w ht
  . exact ways_7 a w ht
  . exact ways_8 a w ht
  . exact ways_9 a w ht
  . exact ways_10 a w
  . exact ways_11 a w
  . exact ways_12 a w
  . exact ways_13 a w
  . exact ways_14 a w
  . exact ways_15 a w
  . exact ways_16 a w ht
  . exact ways_17 a w ht
  . exact ways_18 a w ht
  . exact ways_19 a w ht
  . exact ways_20 a w
  . exact ways_21 a w
  . exact ways_22 a w ht
  . exact ways_23 a w
  . exact ways_24 a w
  . exact ways_25 a w ht
  . exact ways_26 a w
  . exact ways_27 a w
  . exact ways_28 a w
  . exact ways_29 a w
theorem waysN_range (op : Int) (ho : 1 <= op /\ op <= 29) : ∀ k ∈ waysN op, 150 <= k /\ k <= 161 := by
  obtain rfl | rfl | rfl | rfl | rfl | rfl | rfl | rfl | rfl | rfl | rfl | rfl | rfl | rfl | rfl | rfl | rfl | rfl | rfl | rfl | rfl | rfl | rfl | rfl | rfl | rfl | rfl | rfl | rfl : op = 1 \/ op = 2 \/ op = 3 \/ op = 4 \/ op = 5 \/ op = 6 \/ op = 7 \/ op = 8 \/ op = 9 \/ op = 10 \/ op = 11 \/ op = 12 \/ op = 13 \/ op = 14 \/ op = 15 \/ op = 16 \/ op = 17 \/ op = 18 \/ op = 19 \/ op = 20 \/ op = 21 \/ op = 22 \/ op = 23 \/ op = 24 \/ op = 25 \/ op = 26 \/ op = 27 \/ op = 28 \/ op = 29 := by omega
  all_goals decide
end Go.Proofs.YtahhbckccdigoaaGreatDoor
