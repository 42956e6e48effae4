/- Layer 12, the reference over memory: another object. -/
import Derived.Test.YthmeafnofckoiaaDoorPrC
namespace Go.Proofs.YthmeafnofckoiaaDoor
open Go Go.RowKit
open Layertwelve (Ob trapF objN loadF storeF slotF wordsF shapeF makeF firstF slotsF goF reachF)

theorem zeros_cell {w : World} {b n : Nat} (h : w.heap[b]? = some (.cells (ints12 (List.replicate n 0)).toArray 2 (0, 0))) : ∀ i x, (List.replicate n (0 : Int))[i]? = some x → w.cell? ⟨b, i, none⟩ = some (.int .i64 x) := fun _ _ hi => (row_cell h hi).1
set_option maxHeartbeats 2000000 in
set_option maxRecDepth 20000 in
theorem rmake_any (l : List Ob) (n m : Nat) (F : Nat → Prop) (v : Value) (w : World) (hX : ObjsX F w l v) (hF : ∀ b, F b → b < w.heap.size) (hn : n ≤ 16) (hl : l.length ≤ 1000) :
    Calls Tryd.prog 9 #[v, .agg #[.int .i64 (n : Int), .int .i64 (m : Int)]] w fun e w' => ∃ v', e = .returned v' ∧ ObjsX F w' (makeF l (n, m)) v' ∧ Below w.heap.size w w' := by
  have b0 := below_box w (.cells #[.int .i64 (n : Int), .int .i64 (m : Int)] 31)
  have z0 : (w.alloc (.cells #[.int .i64 (n : Int), .int .i64 (m : Int)] 31)).cell? ⟨w.heap.size, 0, none⟩ = some (.int .i64 (n : Int)) := by simp
  have z1 : (w.alloc (.cells #[.int .i64 (n : Int), .int .i64 (m : Int)] 31)).cell? ⟨w.heap.size, 1, none⟩ = some (.int .i64 (m : Int)) := by simp
  have hz : w.heap.size < (w.alloc (.cells #[.int .i64 (n : Int), .int .i64 (m : Int)] 31)).heap.size := by simp
  obtain ⟨W, hW⟩ : ∃ W, W = w.alloc (.cells #[.int .i64 (n : Int), .int .i64 (m : Int)] 31) := ⟨_, rfl⟩
  rw [← hW] at b0 z0 z1 hz
  have HW := hide hW
  clear hW
  obtain ⟨v1, w1, raw, hr1, own1, raw1, bl1⟩ := copy_run (hX.below b0) hl
  replace z0 := (bl1.cell (p := ⟨w.heap.size, 0, none⟩) hz).trans z0
  replace z1 := (bl1.cell (p := ⟨w.heap.size, 1, none⟩) hz).trans z1
  have hz1 : w.heap.size < w1.heap.size := Nat.lt_of_lt_of_le hz bl1.size
  obtain ⟨Wa, hWa⟩ : ∃ Wa, Wa = w1.drew.alloc (.cells (madeCells #[Value.int .i64 0] n) 2) := ⟨_, rfl⟩
  obtain ⟨Wb, hWb⟩ : ∃ Wb, Wb = Wa.alloc (.cells #[.int .i64 (n : Int), .int .i64 (m : Int), .slice (some ⟨w1.heap.size, 0, none⟩) n n] 62) := ⟨_, rfl⟩
  have sa : Wa.heap.size = w1.heap.size + 1 := by rw [hWa]; simp
  have sb : Wb.heap.size = w1.heap.size + 2 := by rw [hWb]; simp [sa]
  have Bb : Below w1.heap.size w1 Wb := by
    rw [hWb, hWa]
    exact ((Below.refl w1.heap.size w1).drew.alloc (by simp) _).alloc (by simp) _
  have ownb := own_below Bb _ _ _ _ _ _ own1
  have hblk : Wb.heap[w1.heap.size]? = some (.cells (ints12 (List.replicate n 0)).toArray 2 (0, 0)) := by
    rw [hWb]
    have e1 := heap_alloc_old Wa (.cells #[.int .i64 (n : Int), .int .i64 (m : Int), .slice (some ⟨w1.heap.size, 0, none⟩) n n] 62) (show w1.heap.size < Wa.heap.size by omega)
    rw [e1, hWa, ← zeros_row]
    exact heap_alloc_new w1.drew _
  obtain ⟨i0, hi0, hiz, his, hib⟩ := info12_parts Tryd.info62
  obtain ⟨v4, w4, hr4, own4, grow4, _, _⟩ := run_append_own_at (P := Tryd.prog) Wb W.heap.size 26 26 62 i0 _ 3 40 Tryd.underlying26 hi0 hiz his hib rfl (by decide) v1 l.length raw ownb ⟨Wa.heap.size, 0, none⟩ 1 1
    [.int .i64 (n : Int), .int .i64 (m : Int), .slice (some ⟨w1.heap.size, 0, none⟩) n n] rfl (by rw [hWb]; exact ob_cell) (by intro u hu; simp at hu; rcases hu with rfl | rfl | rfl <;> rfl) (by unfold maxLen; omega) (by omega) (by have := bl1.size; omega)
  have HE : Hid (ObjsX F w4 (makeF l (n, m)) v4 ∧ Below w.heap.size w w4) := hide (by
    have hs1 := bl1.size
    have hs0 := b0.size
    have g4 : Below W.heap.size Wb w4 := below_grown grow4 (by omega) (fun k hk => (own1.lt k hk).1)
    have BW : Below W.heap.size W w4 := bl1.trans ((Bb.mono hs1).trans g4)
    refine ⟨?_, b0.trans (BW.mono hs0)⟩
    have hblk4 : w4.heap[w1.heap.size]? = some (.cells (ints12 (List.replicate n 0)).toArray 2 (0, 0)) := (grow4.block _ (by omega) (fun e => by have := (own1.lt _ e.symm).2; omega)).trans hblk
    have hin : InX F w4 (List.replicate n 0) w1.heap.size := ⟨(Array.getElem?_eq_some_iff.1 hblk4).1, fun f => by have := hF _ f; omega, zeros_cell hblk4⟩
    have hR := (raw1.below BW).snoc ((n, m), List.replicate n 0) w1.heap.size n hin (by simp) (by unfold maxLen; omega)
    have e1 : (((n, m), List.replicate n (0 : Int)) : Ob).2.length = n := by simp
    rw [e1] at hR
    have e2 : (l ++ [(((n, m), List.replicate n (0 : Int)) : Ob)]).length = l.length + 1 := by simp
    have hq : ObjsX F w4 (l ++ [(((n, m), List.replicate n (0 : Int)) : Ob)]) v4 := RawF.objs hR (by rw [e2]; exact own4) (fun b hb => by have := hF b hb; omega)
    exact hq)
  have bm := below_box w1 (.cells (madeCells #[Value.int .i64 0] n) 2)
  have za0 := (bm.cell (p := ⟨w.heap.size, 0, none⟩) hz1).trans z0
  have za1 := (bm.cell (p := ⟨w.heap.size, 1, none⟩) hz1).trans z1
  clear bm
  rw [sa] at hr4
  have HR4 := hide hr4
  have HR1 := hide hr1
  have hmk : ∀ w, (Instr.makeSlice 60 (.int .i64 (n : Int)) (.int .i64 (n : Int))).run Tryd.prog w = .ok (.slice (some ⟨w.heap.size, 0, none⟩) n n) (w.alloc (.cells (madeCells #[.int .i64 0] n) 2)) := fun w => run_make_row' (P := Tryd.prog) 60 2 (.int .i64 0) 8 Tryd.underlying60 Tryd.info2 rfl .i64 .i64 n (by omega) (by omega) w
  obtain ⟨ao, cp, hvv⟩ := hX.val
  obtain ⟨ao1, cp1, hv1⟩ := own12_len own1
  obtain ⟨ao4, cp4, hv4⟩ := own12_len own4
  clear own4 grow4 own1 ownb raw1 hr4 hr1 hblk Bb b0 bl1 hi0 hiz his hib sa sb hz hz1 hX hF
  subst hvv hv1 hv4
  rw [hWb, hWa] at HR4
  clear hWb hWa
  go_enter Tryd.func9, Tryd.ntmps9
  go_upto_region 1 with fail
  show Code.wp _ _ _ _ (w.alloc (.cells #[.int .i64 (n : Int), .int .i64 (m : Int)] 31))
  rw [← HW.out]
  clear HW
  go_upto_region 3 with (at_builtin; refine wpList_run rfl (.tmp 6) (.tmp 7) 26 rfl _ _ rfl rfl _ w1 HR1.out ?_)
  apply wp_one
  · intro K0 HK0
    go_region_law (refine stepP_run rfl (.tmp 9) (.tmp 15) 26 rfl _ _ rfl rfl _ w4 HR4.out ?_)
    all_goals exact HK0
  go_wp2_with fail
  go_ret
  exact ⟨_, rfl, HE.out⟩
end Go.Proofs.YthmeafnofckoiaaDoor
