/- Layer 12, the reference over memory: an object's shape. -/
import Derived.Test.YthmeafnofckoiaaDoorPlC
namespace Go.Proofs.YthmeafnofckoiaaDoor
open Go Go.RowKit
open Layertwelve (Ob trapF objN loadF storeF slotF wordsF shapeF makeF)

theorem two_new (w : World) : Below w.heap.size w (w.alloc (.cells #[.int .i64 0, .int .i64 0] 31)) ∧ (w.alloc (.cells #[.int .i64 0, .int .i64 0] 31)).cell? ⟨w.heap.size, 0, none⟩ = some (.int .i64 0) ∧ (w.alloc (.cells #[.int .i64 0, .int .i64 0] 31)).cell? ⟨w.heap.size, 1, none⟩ = some (.int .i64 0) ∧
    (∀ j, (w.alloc (.cells #[.int .i64 0, .int .i64 0] 31)).frozen? ⟨w.heap.size, j, none⟩ = false) := by
  have h := heap_alloc_new w (.cells #[.int .i64 0, .int .i64 0] 31)
  exact ⟨below_box _ _, by simp, by simp, fun j => by unfold World.frozen?; rw [h]; simp⟩
set_option maxHeartbeats 1000000 in
set_option maxRecDepth 20000 in
theorem rshape_any (l : List Ob) (id : Int) (ao : Option Addr) (c : Nat) (w : World) (h : ObjsR w l (.slice ao l.length c)) :
    Calls Tryd.prog 22 #[.slice ao l.length c, .int .i64 id] w fun e w' => e = .returned (.agg #[.int .i64 ((shapeF l id).1 : Int), .int .i64 ((shapeF l id).2 : Int)]) ∧ Below w.heap.size w w' := by
  have hl : l.length ≤ maxLen := by obtain ⟨_, _, _, k1, k2, _⟩ := h; exact Nat.le_trans k1 k2
  unfold maxLen at hl
  obtain ⟨b0, z0, z1, fz⟩ := two_new w
  have f0 := fz 0
  have f1 := fz 1
  have HB := hide (fun a b => (b0.setCell (p := ⟨w.heap.size, 0, none⟩) (Nat.le_refl _) (.int .i64 a)).setCell (p := ⟨w.heap.size, 1, none⟩) (Nat.le_refl _) (.int .i64 b))
  clear fz
  by_cases h1 : id < 1
  · have HS : Hid (shapeF l id = (0, 0)) := hide (by unfold shapeF; rw [if_pos (.inl h1)])
    rw [HS.out]
    clear h HS b0
    go_enter Tryd.func22, Tryd.ntmps22
    go_upto_region 1 with fail
    show Code.wp _ _ _ _ (w.alloc (.cells #[.int .i64 0, .int .i64 0] 31))
    generalize w.alloc (.cells #[.int .i64 0, .int .i64 0] 31) = W at *
    go_wp2_with fail
    exact bodyPost_ret (v := .agg #[.int .i64 0, .int .i64 0]) (by simp [results, Tryd.results22, go_sem, z0, z1]) rfl ⟨rfl, HB.out 0 0⟩
  by_cases h2 : (l.length : Int) < id
  · have HS : Hid (shapeF l id = (0, 0)) := hide (by unfold shapeF; rw [if_pos (.inr h2)])
    rw [HS.out]
    clear h HS b0
    go_enter Tryd.func22, Tryd.ntmps22
    go_upto_region 1 with fail
    show Code.wp _ _ _ _ (w.alloc (.cells #[.int .i64 0, .int .i64 0] 31))
    generalize w.alloc (.cells #[.int .i64 0, .int .i64 0] 31) = W at *
    go_wp2_with fail
    exact bodyPost_ret (v := .agg #[.int .i64 0, .int .i64 0]) (by simp [results, Tryd.results22, go_sem, z0, z1]) rfl ⟨rfl, HB.out 0 0⟩
  obtain ⟨g, o, i, hi, rfl, hg, hmem, hob⟩ := objs_at h (id := id) (by omega) (by omega)
  obtain rfl : id = (i : Int) + 1 := by omega
  clear hi hmem h
  have HS : Hid (shapeF l ((i : Int) + 1) = (objN l ((i : Int) + 1)).1) := hide (by unfold shapeF; rw [if_neg (by omega)])
  rw [HS.out]
  clear HS
  obtain ⟨so, sc, d0, d1, _⟩ := hob
  replace d0 := (b0.cell (p := ⟨g, o + i * 3, none⟩) hg).trans d0
  replace d1 := (b0.cell (p := ⟨g, o + i * 3 + 1, none⟩) hg).trans d1
  generalize objN l ((i : Int) + 1) = x at *
  obtain ⟨⟨xn, xm⟩, xs⟩ := x
  have hw : IntKind.i64.wrap ((i : Int) + 1 - 1) = (i : Int) := by rw [IntWalk.i64_in _ ⟨by omega, by omega⟩]; omega
  have hil : (i : Int) < (l.length : Int) := by omega
  have hgq : g ≠ w.heap.size := by omega
  clear b0
  generalize l.length = ln at *
  go_enter Tryd.func22, Tryd.ntmps22
  go_upto_region 1 with fail
  show Code.wp _ _ _ _ (w.alloc (.cells #[.int .i64 0, .int .i64 0] 31))
  generalize w.alloc (.cells #[.int .i64 0, .int .i64 0] 31) = W at *
  go_wp2_with fail
  exact bodyPost_ret (v := .agg #[.int .i64 (xn : Int), .int .i64 (xm : Int)]) (by simp [results, Tryd.results22, go_sem, z0, z1]) rfl ⟨rfl, HB.out _ _⟩
end Go.Proofs.YthmeafnofckoiaaDoor
