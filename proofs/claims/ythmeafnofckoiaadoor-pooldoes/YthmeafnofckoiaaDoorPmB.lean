/- Layer 12, the program over memory: whether there is a slot, where it stands, what it holds; how many, words, shapes. -/
import Derived.Test.YthmeafnofckoiaaDoorPmA
namespace Go.Proofs.YthmeafnofckoiaaDoor
open Go Go.RowKit
open Layertwelve (Ob trapF objN loadF storeF slotF wordsF shapeF makeF firstF slotsF goF reachF)

/-- The pool at a block, to be read. -/
def PoolR (w : World) (l : List Ob) (gp : Nat) : Prop := ∃ ao c, w.cell? ⟨gp, 0, none⟩ = some (.slice ao l.length c) ∧ w.cell? ⟨gp, 1, none⟩ = some (.int .i64 (wordsF l : Int)) ∧ gp < w.heap.size ∧ ObjsR w l (.slice ao l.length c)
theorem PoolR.below {w w' : World} {l : List Ob} {gp : Nat} (h : PoolR w l gp) (b : Below w.heap.size w w') : PoolR w' l gp := by
  obtain ⟨ao, c, h1, h2, h3, h4⟩ := h
  exact ⟨ao, c, (b.cell (p := ⟨gp, 0, none⟩) h3).trans h1, (b.cell (p := ⟨gp, 1, none⟩) h3).trans h2, Nat.lt_of_lt_of_le h3 b.size, h4.below b⟩
theorem slotF_eq (l : List Ob) (id slot : Int) : slotF has l id slot = if id = 0 then 1 else if id < 0 ∨ (l.length : Int) < id then 2 else if slot < 0 ∨ ((objN l id).1.1 : Int) ≤ slot then 2 else 0 := by
  unfold slotF trapF
  by_cases h0 : id = 0
  · simp [h0]
  · simp only [if_neg h0]
    by_cases h1 : id < 0 ∨ (l.length : Int) < id
    · simp [h1]
    · simp only [if_neg h1]
      show (if ((if slot < 0 ∨ ((objN l id).1.1 : Int) ≤ slot ∨ has (objN l id).1.1 (objN l id).1.2 slot ≠ true then (2 : Int) else 0) = 0) ∨ ((if slot < 0 ∨ ((objN l id).1.1 : Int) ≤ slot ∨ has (objN l id).1.1 (objN l id).1.2 slot ≠ false then (2 : Int) else 0) = 0) then (0 : Int) else (if slot < 0 ∨ ((objN l id).1.1 : Int) ≤ slot ∨ has (objN l id).1.1 (objN l id).1.2 slot ≠ true then (2 : Int) else 0)) = _
      by_cases h2 : slot < 0 ∨ ((objN l id).1.1 : Int) ≤ slot
      · have h3 : ∀ q : Prop, slot < 0 ∨ ((objN l id).1.1 : Int) ≤ slot ∨ q := fun q => h2.elim .inl (fun h => .inr (.inl h))
        rw [if_pos h2, if_pos (h3 _), if_pos (h3 _)]; simp
      · rw [if_neg h2]
        cases hb : has (objN l id).1.1 (objN l id).1.2 slot
        · rw [if_pos (.inr (if_neg (by rintro (h | h | h) <;> first | exact h2 (.inl h) | exact h2 (.inr h) | exact h rfl)))]
        · rw [if_pos (.inl (if_neg (by rintro (h | h | h) <;> first | exact h2 (.inl h) | exact h2 (.inr h) | exact h rfl)))]
set_option maxHeartbeats 1000000 in
set_option maxRecDepth 20000 in
theorem pslot_any (l : List Ob) (id slot : Int) (gp : Nat) (w : World) (h : PoolR w l gp) (hs : ∀ o ∈ l, Sh o) :
    Calls Tryd.prog 19 #[.pointer (some ⟨gp, 0, none⟩), .int .i64 id, .int .i64 slot] w fun e w' => e = .returned (.int .i64 (slotF has l id slot)) ∧ Below w.heap.size w w' := by
  have HS := hide (slotF_eq l id slot)
  obtain ⟨r, hr⟩ : ∃ r, slotF has l id slot = r := ⟨_, rfl⟩
  rw [hr] at HS ⊢
  clear hr
  obtain ⟨ao, c, c0, c1, hg, ho⟩ := h
  have hl : l.length ≤ maxLen := by obtain ⟨_, _, _, k1, k2, _⟩ := ho; exact Nat.le_trans k1 k2
  by_cases h0 : id = 0
  · have HR : Hid (1 = r) := hide (by rw [HS.out, if_pos h0])
    have k0 : (id == 0) = true := by simpa using h0
    clear c0 c1 ho hs
    go_enter Tryd.func19, Tryd.ntmps19
    go_wp2_with fail
    go_ret
    exact ⟨congrArg (fun z => Ending.returned (.int .i64 z)) HR.out, Below.refl _ _⟩
  have k0 : (id == 0) = false := by simpa using h0
  by_cases h1 : id ≤ 0 ∨ (l.length : Int) < id
  · have HR : Hid (2 = r) := hide (by rw [HS.out, if_neg h0, if_pos (by omega)])
    have HF := hide (find_no id gp l.length c ao w c0 hg h1)
    clear c0 c1 ho hs h0 h1
    go_enter Tryd.func19, Tryd.ntmps19
    go_wp2_with fail
    refine HF.out.mono ?_; rintro e w1 ⟨rfl, b1⟩
    have B1 := hide b1
    clear b1 HF
    go_wp2_with fail
    go_ret
    refine ⟨congrArg (fun z => Ending.returned (.int .i64 z)) HR.out, ?_⟩
    exact B1.out.alloc B1.out.size _
  obtain ⟨g, o, i, hi, rfl, hgg, hmem, hob⟩ := objs_at ho (id := id) (by omega) (by omega)
  obtain rfl : id = (i : Int) + 1 := by omega
  obtain ⟨n1, n2, n3⟩ := hs _ hmem
  have HS2 : Hid (r = if slot < 0 ∨ ((objN l ((i : Int) + 1)).1.1 : Int) ≤ slot then 2 else 0) := hide (by rw [HS.out, if_neg h0, if_neg (by omega)])
  clear HS hi hmem hs ho h0
  obtain ⟨so, sc, d0, d1, d2, _⟩ := hob
  generalize objN l ((i : Int) + 1) = x at *
  obtain ⟨⟨xn, xm⟩, xs⟩ := x
  have n4 : xs.length = xn := n3
  rw [n4] at d2
  have HF := hide (find_yes i gp l.length c g o xn xm so xn sc w c0 hg hl (by omega) hgg d0 d1 d2)
  clear c0 c1 d0 d1 d2 n3 n4 h1
  generalize l.length = ln at *
  go_enter Tryd.func19, Tryd.ntmps19
  go_wp2_with fail
  refine HF.out.mono ?_; rintro e w1 ⟨rfl, b1⟩
  have B1 := hide b1
  clear b1 HF
  by_cases h3 : slot < 0
  · have HR : Hid (2 = r) := hide (by rw [HS2.out, if_pos (.inl h3)])
    go_wp2_with fail
    go_ret
    exact ⟨congrArg (fun z => Ending.returned (.int .i64 z)) HR.out, B1.out.alloc B1.out.size _⟩
  by_cases h4 : (xn : Int) ≤ slot
  · have HR : Hid (2 = r) := hide (by rw [HS2.out, if_pos (.inr h4)])
    go_wp2_with fail
    go_ret
    exact ⟨congrArg (fun z => Ending.returned (.int .i64 z)) HR.out, B1.out.alloc B1.out.size _⟩
  · have HR : Hid (0 = r) := hide (by rw [HS2.out, if_neg (by rintro (h | h) <;> contradiction)])
    go_wp2_with fail
    go_ret
    exact ⟨congrArg (fun z => Ending.returned (.int .i64 z)) HR.out, B1.out.alloc B1.out.size _⟩
set_option maxRecDepth 20000 in
theorem plen_any (l : List Ob) (gp : Nat) (w : World) (h : PoolR w l gp) :
    Calls Tryd.prog 16 #[.pointer (some ⟨gp, 0, none⟩)] w fun e w' => e = .returned (.int .i64 (l.length : Int)) ∧ w' = w := by
  obtain ⟨ao, c, c0, _, hg, ho⟩ := h
  clear ho
  go_enter Tryd.func16, Tryd.ntmps16
  go_wp2_with fail
  go_ret
  exact ⟨rfl, rfl⟩
set_option maxRecDepth 20000 in
theorem pwords_any (l : List Ob) (gp : Nat) (w : World) (h : PoolR w l gp) :
    Calls Tryd.prog 17 #[.pointer (some ⟨gp, 0, none⟩)] w fun e w' => e = .returned (.int .i64 (wordsF l : Int)) ∧ w' = w := by
  obtain ⟨ao, c, _, c1, hg, ho⟩ := h
  clear ho
  go_enter Tryd.func17, Tryd.ntmps17
  go_wp2_with fail
  go_ret
  exact ⟨rfl, rfl⟩
theorem put2_alloc {w1 : World} {g : Nat} {a b : Value} (x y : Value) (o : Obj) (z0 : w1.cell? ⟨g, 0, none⟩ = some a) (z1 : w1.cell? ⟨g, 1, none⟩ = some b) (hg : g < w1.heap.size) :
    (((w1.setCell ⟨g, 0, none⟩ x).setCell ⟨g, 1, none⟩ y).alloc o).cell? ⟨g, 0, none⟩ = some x ∧ (((w1.setCell ⟨g, 0, none⟩ x).setCell ⟨g, 1, none⟩ y).alloc o).cell? ⟨g, 1, none⟩ = some y := by
  have hb := below_box ((w1.setCell ⟨g, 0, none⟩ x).setCell ⟨g, 1, none⟩ y) o
  have hz : g < ((w1.setCell ⟨g, 0, none⟩ x).setCell ⟨g, 1, none⟩ y).heap.size := by simpa using hg
  refine ⟨(hb.cell (p := ⟨g, 0, none⟩) hz).trans ?_, (hb.cell (p := ⟨g, 1, none⟩) hz).trans ?_⟩
  · rw [World.cell?_setCell_other _ _ _ _ (by simp)]; exact World.cell?_setCell_same _ _ _ z0
  · exact World.cell?_setCell_same _ _ _ ((World.cell?_setCell_other _ _ _ _ (by simp)).trans z1)
set_option maxHeartbeats 1000000 in
set_option maxRecDepth 20000 in
theorem pshape_any (l : List Ob) (id : Int) (gp : Nat) (w : World) (h : PoolR w l gp) :
    Calls Tryd.prog 21 #[.pointer (some ⟨gp, 0, none⟩), .int .i64 id] w fun e w' => e = .returned (.agg #[.int .i64 ((shapeF l id).1 : Int), .int .i64 ((shapeF l id).2 : Int)]) ∧ Below w.heap.size w w' := by
  obtain ⟨b0, z0, z1, fz⟩ := two_new w
  have f0 := fz 0
  have f1 := fz 1
  have hP := h.below b0
  clear fz h
  obtain ⟨W, hW⟩ : ∃ W, W = w.alloc (.cells #[.int .i64 0, .int .i64 0] 31) := ⟨_, rfl⟩
  rw [← hW] at b0 z0 z1 f0 f1 hP
  have hz : w.heap.size < W.heap.size := by rw [hW]; simp
  obtain ⟨ao, c, c0, c1, hg, ho⟩ := hP
  have hl : l.length ≤ maxLen := by obtain ⟨_, _, _, k1, k2, _⟩ := ho; exact Nat.le_trans k1 k2
  by_cases h1 : id ≤ 0 ∨ (l.length : Int) < id
  · have HF := hide (find_no id gp l.length c ao W c0 hg h1)
    have HS : Hid (shapeF l id = (0, 0)) := hide (by unfold shapeF; rw [if_pos (by omega)])
    rw [HS.out]
    have HZ := hide (fun w1 (b : Below W.heap.size W w1) => And.intro (And.intro ((b.cell (p := ⟨w.heap.size, 0, none⟩) hz).trans z0) ((b.cell (p := ⟨w.heap.size, 1, none⟩) hz).trans z1)) (And.intro (And.intro ((b.frozen (p := ⟨w.heap.size, 0, none⟩) hz).trans f0) ((b.frozen (p := ⟨w.heap.size, 1, none⟩) hz).trans f1)) (Nat.lt_of_lt_of_le hz b.size)))
    have HB := hide b0
    have HW := hide hW
    clear c0 c1 ho h1 HS z0 z1 f0 f1 b0 hW
    go_enter Tryd.func21, Tryd.ntmps21
    go_upto_region 1 with fail
    show Code.wp _ _ _ _ (w.alloc (.cells #[.int .i64 0, .int .i64 0] 31))
    rw [← HW.out]
    clear HW
    go_wp2_with fail
    refine HF.out.mono ?_; rintro e w1 ⟨rfl, b1⟩
    obtain ⟨⟨z0, z1⟩, ⟨f0, f1⟩, z2⟩ := HZ.out w1 b1
    have B1 := hide (HB.out.trans (b1.mono HB.out.size))
    clear b1 HF HB HZ
    have hne : w.heap.size ≠ w1.heap.size := by omega
    have HPA := hide (put2_alloc (.int .i64 0) (.int .i64 0) (.cells #[.int .i64 0, .int .i64 0, .slice none 0 0] 66) z0 z1 z2)
    go_wp2_with fail
    exact bodyPost_ret (v := .agg #[.int .i64 0, .int .i64 0]) (by simp [results, Tryd.results21, go_sem, HPA.out]) rfl ⟨rfl, ((B1.out.setCell (p := ⟨w.heap.size, 0, none⟩) (Nat.le_refl _) _).setCell (p := ⟨w.heap.size, 1, none⟩) (Nat.le_refl _) _).alloc (by simpa using B1.out.size) _⟩
  · obtain ⟨g, o, i, hi, rfl, hgg, hmem, hob⟩ := objs_at ho (id := id) (by omega) (by omega)
    obtain rfl : id = (i : Int) + 1 := by omega
    have HS : Hid (shapeF l ((i : Int) + 1) = (objN l ((i : Int) + 1)).1) := hide (by unfold shapeF; rw [if_neg (by omega)])
    rw [HS.out]
    obtain ⟨so, sc, d0, d1, d2, _⟩ := hob
    have HF := hide (find_yes i gp l.length c g o _ _ so _ sc W c0 hg hl (by omega) hgg d0 d1 d2)
    have HZ := hide (fun w1 (b : Below W.heap.size W w1) => And.intro (And.intro ((b.cell (p := ⟨w.heap.size, 0, none⟩) hz).trans z0) ((b.cell (p := ⟨w.heap.size, 1, none⟩) hz).trans z1)) (And.intro (And.intro ((b.frozen (p := ⟨w.heap.size, 0, none⟩) hz).trans f0) ((b.frozen (p := ⟨w.heap.size, 1, none⟩) hz).trans f1)) (Nat.lt_of_lt_of_le hz b.size)))
    have HB := hide b0
    have HW := hide hW
    clear c0 c1 ho h1 HS z0 z1 f0 f1 b0 hW d0 d1 d2 hi hmem
    generalize objN l ((i : Int) + 1) = x at *
    obtain ⟨⟨xn, xm⟩, xs⟩ := x
    generalize xs.length = xl at *
    go_enter Tryd.func21, Tryd.ntmps21
    go_upto_region 1 with fail
    show Code.wp _ _ _ _ (w.alloc (.cells #[.int .i64 0, .int .i64 0] 31))
    rw [← HW.out]
    clear HW
    go_wp2_with fail
    refine HF.out.mono ?_; rintro e w1 ⟨rfl, b1⟩
    obtain ⟨⟨z0, z1⟩, ⟨f0, f1⟩, z2⟩ := HZ.out w1 b1
    have B1 := hide (HB.out.trans (b1.mono HB.out.size))
    clear b1 HF HB HZ
    have hne : w.heap.size ≠ w1.heap.size := by omega
    have HPA := hide (put2_alloc (.int .i64 (xn : Int)) (.int .i64 (xm : Int)) (.cells #[.int .i64 (xn : Int), .int .i64 (xm : Int), .slice so xl sc] 66) z0 z1 z2)
    go_wp2_with fail
    exact bodyPost_ret (v := .agg #[.int .i64 (xn : Int), .int .i64 (xm : Int)]) (by simp [results, Tryd.results21, go_sem, HPA.out]) rfl ⟨rfl, ((B1.out.setCell (p := ⟨w.heap.size, 0, none⟩) (Nat.le_refl _) _).setCell (p := ⟨w.heap.size, 1, none⟩) (Nat.le_refl _) _).alloc (by simpa using B1.out.size) _⟩
end Go.Proofs.YthmeafnofckoiaaDoor
