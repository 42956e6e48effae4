/- Layer 12, the program over memory: an object by its number. -/
import Derived.Test.YthmeafnofckoiaaDoorPlF
namespace Go.Proofs.YthmeafnofckoiaaDoor
open Go Go.RowKit
open Layertwelve (Ob trapF objN loadF storeF slotF wordsF shapeF makeF firstF slotsF goF reachF)

/-- An object as a value. -/
abbrev obV (a b : Int) (v : Value) : Value := .agg #[.int .i64 a, .int .i64 b, v]
theorem obj_new (w : World) : Below w.heap.size w (w.alloc (.cells #[.int .i64 0, .int .i64 0, .slice none 0 0] 66)) ∧ (w.alloc (.cells #[.int .i64 0, .int .i64 0, .slice none 0 0] 66)).cell? ⟨w.heap.size, 0, none⟩ = some (.int .i64 0) ∧ (w.alloc (.cells #[.int .i64 0, .int .i64 0, .slice none 0 0] 66)).cell? ⟨w.heap.size, 1, none⟩ = some (.int .i64 0) ∧
    (w.alloc (.cells #[.int .i64 0, .int .i64 0, .slice none 0 0] 66)).cell? ⟨w.heap.size, 2, none⟩ = some (.slice none 0 0) ∧ (∀ j, (w.alloc (.cells #[.int .i64 0, .int .i64 0, .slice none 0 0] 66)).frozen? ⟨w.heap.size, j, none⟩ = false) := by
  have h := heap_alloc_new w (.cells #[.int .i64 0, .int .i64 0, .slice none 0 0] 66)
  exact ⟨below_box _ _, by simp, by simp, by simp, fun j => by unfold World.frozen?; rw [h]; simp⟩
set_option maxHeartbeats 1000000 in
set_option maxRecDepth 20000 in
theorem find_no (id : Int) (gp ln c : Nat) (ao : Option Addr) (w : World) (c0 : w.cell? ⟨gp, 0, none⟩ = some (.slice ao ln c)) (hg : gp < w.heap.size) (h : id ≤ 0 ∨ (ln : Int) < id) :
    Calls Tryd.prog 30 #[.pointer (some ⟨gp, 0, none⟩), .int .i64 id] w fun e w' => e = .returned (.tuple #[obV 0 0 (.slice none 0 0), .bool false]) ∧ Below w.heap.size w w' := by
  obtain ⟨b0, z0, z1, z2, fz⟩ := obj_new w
  have f0 := fz 0
  have f1 := fz 1
  have f2 := fz 2
  have HB := hide (fun a b d => ((b0.setCell (p := ⟨w.heap.size, 0, none⟩) (Nat.le_refl _) (.int .i64 a)).setCell (p := ⟨w.heap.size, 1, none⟩) (Nat.le_refl _) (.int .i64 b)).setCell (p := ⟨w.heap.size, 2, none⟩) (Nat.le_refl _) d)
  replace c0 := (b0.cell (p := ⟨gp, 0, none⟩) hg).trans c0
  clear fz b0
  by_cases h1 : id ≤ 0
  · clear h
    go_enter Tryd.func30, Tryd.ntmps30
    go_upto_region 1 with fail
    show Code.wp _ _ _ _ (w.alloc (.cells #[.int .i64 0, .int .i64 0, .slice none 0 0] 66))
    generalize w.alloc (.cells #[.int .i64 0, .int .i64 0, .slice none 0 0] 66) = W at *
    go_wp2_with fail
    exact bodyPost_ret (v := .tuple #[obV 0 0 (.slice none 0 0), .bool false]) (by simp [results, Tryd.results30, go_sem, z0, z1, z2]) rfl ⟨rfl, HB.out 0 0 _⟩
  · have h2 : (ln : Int) < id := by omega
    clear h
    go_enter Tryd.func30, Tryd.ntmps30
    go_upto_region 1 with fail
    show Code.wp _ _ _ _ (w.alloc (.cells #[.int .i64 0, .int .i64 0, .slice none 0 0] 66))
    generalize w.alloc (.cells #[.int .i64 0, .int .i64 0, .slice none 0 0] 66) = W at *
    go_wp2_with fail
    exact bodyPost_ret (v := .tuple #[obV 0 0 (.slice none 0 0), .bool false]) (by simp [results, Tryd.results30, go_sem, z0, z1, z2]) rfl ⟨rfl, HB.out 0 0 _⟩
set_option maxHeartbeats 1000000 in
set_option maxRecDepth 20000 in
theorem find_yes (i : Nat) (gp ln c g o : Nat) (a b : Int) (so : Option Addr) (sn sc : Nat) (w : World) (c0 : w.cell? ⟨gp, 0, none⟩ = some (.slice (some ⟨g, o, none⟩) ln c)) (hg : gp < w.heap.size) (hl : ln ≤ maxLen) (hi : i < ln) (hgg : g < w.heap.size)
    (d0 : w.cell? ⟨g, o + i * 3, none⟩ = some (.int .i64 a)) (d1 : w.cell? ⟨g, o + i * 3 + 1, none⟩ = some (.int .i64 b)) (d2 : w.cell? ⟨g, o + i * 3 + 2, none⟩ = some (.slice so sn sc)) :
    Calls Tryd.prog 30 #[.pointer (some ⟨gp, 0, none⟩), .int .i64 ((i : Int) + 1)] w fun e w' => e = .returned (.tuple #[obV a b (.slice so sn sc), .bool true]) ∧ Below w.heap.size w w' := by
  unfold maxLen at hl
  obtain ⟨b0, z0, z1, z2, fz⟩ := obj_new w
  have f0 := fz 0
  have f1 := fz 1
  have f2 := fz 2
  have HB := hide (fun a b d => ((b0.setCell (p := ⟨w.heap.size, 0, none⟩) (Nat.le_refl _) (.int .i64 a)).setCell (p := ⟨w.heap.size, 1, none⟩) (Nat.le_refl _) (.int .i64 b)).setCell (p := ⟨w.heap.size, 2, none⟩) (Nat.le_refl _) d)
  replace c0 := (b0.cell (p := ⟨gp, 0, none⟩) hg).trans c0
  replace d0 := (b0.cell (p := ⟨g, o + i * 3, none⟩) hgg).trans d0
  replace d1 := (b0.cell (p := ⟨g, o + i * 3 + 1, none⟩) hgg).trans d1
  replace d2 := (b0.cell (p := ⟨g, o + i * 3 + 2, none⟩) hgg).trans d2
  have hw : IntKind.i64.wrap ((i : Int) + 1 - 1) = (i : Int) := by rw [IntWalk.i64_in _ ⟨by omega, by omega⟩]; omega
  have hil : (i : Int) < (ln : Int) := by omega
  have hgq : g ≠ w.heap.size := by omega
  clear fz b0
  go_enter Tryd.func30, Tryd.ntmps30
  go_upto_region 1 with fail
  show Code.wp _ _ _ _ (w.alloc (.cells #[.int .i64 0, .int .i64 0, .slice none 0 0] 66))
  generalize w.alloc (.cells #[.int .i64 0, .int .i64 0, .slice none 0 0] 66) = W at *
  go_wp2_with fail
  exact bodyPost_ret (v := .tuple #[obV a b (.slice so sn sc), .bool true]) (by simp [results, Tryd.results30, go_sem, z0, z1, z2]) rfl ⟨rfl, HB.out _ _ _⟩
end Go.Proofs.YthmeafnofckoiaaDoor
