/- Layer 12, the reference over memory: the trap of an object and a slot, what a slot holds, shapes. -/
import Derived.Test.YthmeafnofckoiaaDoorWalksD
import Derived.Test.YthmeafnofckoiaaDoorPlA
import Derived.Deep.RegionHeld3
import Derived.Deep.AppendLies
import Derived.Deep.DrawnRows
import Derived.Deep.RegionLaw
import Derived.Deep.RegionWith
import Derived.Deep.Cut
namespace Go.Proofs.YthmeafnofckoiaaDoor
open Go Go.RowKit
open Layertwelve (Ob trapF objN loadF storeF slotF wordsF shapeF makeF)

/-- An object's cells stand from an offset of a block on. -/
def ObjR (w : World) (o : Ob) (g k : Nat) : Prop := ∃ ao c, w.cell? ⟨g, k, none⟩ = some (.int .i64 (o.1.1 : Int)) ∧ w.cell? ⟨g, k + 1, none⟩ = some (.int .i64 (o.1.2 : Int)) ∧ w.cell? ⟨g, k + 2, none⟩ = some (.slice ao o.2.length c) ∧
  (o.2 = [] ∨ ∃ b p, ao = some ⟨b, p, none⟩ ∧ b < w.heap.size ∧ ∀ i n, o.2[i]? = some n → w.cell? ⟨b, p + i, none⟩ = some (.int .i64 n)) ∧ o.2.length ≤ c ∧ c ≤ maxLen
/-- Objects as a value. -/
def ObjsR (w : World) (l : List Ob) (v : Value) : Prop := ∃ ao c, v = .slice ao l.length c ∧ l.length ≤ c ∧ c ≤ maxLen ∧ (l = [] ∨ ∃ g o, ao = some ⟨g, o, none⟩ ∧ g < w.heap.size ∧ ∀ i x, l[i]? = some x → ObjR w x g (o + i * 3))
theorem ObjR.below {w w' : World} {o : Ob} {g k : Nat} (hg : g < w.heap.size) (h : ObjR w o g k) (b : Below w.heap.size w w') : ObjR w' o g k := by
  obtain ⟨ao, c, h1, h2, h3, h4, h5⟩ := h
  refine ⟨ao, c, (b.cell (p := ⟨g, k, none⟩) hg).trans h1, (b.cell (p := ⟨g, k + 1, none⟩) hg).trans h2, (b.cell (p := ⟨g, k + 2, none⟩) hg).trans h3, ?_, h5⟩
  rcases h4 with h4 | ⟨q, p, e, hq, h6⟩
  · exact .inl h4
  · exact .inr ⟨q, p, e, Nat.lt_of_lt_of_le hq b.size, fun i n hn => (b.cell (p := ⟨q, p + i, none⟩) hq).trans (h6 i n hn)⟩
theorem ObjsR.below {w w' : World} {l : List Ob} {v : Value} (h : ObjsR w l v) (b : Below w.heap.size w w') : ObjsR w' l v := by
  obtain ⟨ao, c, e, h1, h2, h3⟩ := h
  refine ⟨ao, c, e, h1, h2, ?_⟩
  rcases h3 with h3 | ⟨g, o, e2, hg, h4⟩
  · exact .inl h3
  · exact .inr ⟨g, o, e2, Nat.lt_of_lt_of_le hg b.size, fun i x hi => (h4 i x hi).below hg b⟩
/-- A shape that may be. -/
def Sh (o : Ob) : Prop := o.1.1 ≤ 16 ∧ o.1.2 < 2 ^ o.1.1 ∧ o.2.length = o.1.1
theorem objs_at {w : World} {l : List Ob} {ao : Option Addr} {n c : Nat} {id : Int} (h : ObjsR w l (.slice ao n c)) (h1 : 1 ≤ id) (h2 : id ≤ l.length) : ∃ (g o : Nat) (i : Nat), (i : Int) = id - 1 ∧ ao = some ⟨g, o, none⟩ ∧ g < w.heap.size ∧ objN l id ∈ l ∧ ObjR w (objN l id) g (o + i * 3) := by
  obtain ⟨ao', c', e, _, _, h3⟩ := h
  cases e
  have hm := Layertwelve.objN_mem h1 h2
  rcases h3 with h3 | ⟨g, o, rfl, hg, h4⟩
  · subst h3; simp at h2; omega
  · exact ⟨g, o, (id - 1).toNat, by omega, rfl, hg, List.mem_of_getElem? hm, h4 _ _ hm⟩
set_option maxHeartbeats 1000000 in
set_option maxRecDepth 20000 in
theorem rtrap_any (l : List Ob) (id slot : Int) (p : Bool) (ao : Option Addr) (c : Nat) (w : World) (h : ObjsR w l (.slice ao l.length c)) (hs : ∀ o ∈ l, Sh o) :
    Calls Tryd.prog 29 #[.slice ao l.length c, .int .i64 id, .int .i64 slot, .bool p] w fun e w' => e = .returned (.int .i64 (trapF has l id slot p)) ∧ Below w.heap.size w w' := by
  have HT : Hid (trapF has l id slot p = if id = 0 then 1 else if id < 0 ∨ (l.length : Int) < id then 2 else if slot < 0 ∨ ((objN l id).1.1 : Int) ≤ slot ∨ has (objN l id).1.1 (objN l id).1.2 slot ≠ p then 2 else 0) := hide rfl
  have hl : l.length ≤ maxLen := by obtain ⟨_, _, _, k1, k2, _⟩ := h; exact Nat.le_trans k1 k2
  unfold maxLen at hl
  by_cases h0 : id = 0
  · have HR : Hid (1 = trapF has l id slot p) := hide (by rw [HT.out, if_pos h0])
    have k0 : (id == 0) = true := by simpa using h0
    clear h hs
    go_enter Tryd.func29, Tryd.ntmps29
    go_wp2_with fail
    go_ret
    exact ⟨congrArg (fun z => Ending.returned (.int .i64 z)) HR.out, Below.refl _ _⟩
  have k0 : (id == 0) = false := by simpa using h0
  by_cases h1 : id < 0
  · have HR : Hid (2 = trapF has l id slot p) := hide (by rw [HT.out, if_neg h0, if_pos (.inl h1)])
    clear h hs h0
    go_enter Tryd.func29, Tryd.ntmps29
    go_wp2_with fail
    go_ret
    exact ⟨congrArg (fun z => Ending.returned (.int .i64 z)) HR.out, Below.refl _ _⟩
  by_cases h2 : (l.length : Int) < id
  · have HR : Hid (2 = trapF has l id slot p) := hide (by rw [HT.out, if_neg h0, if_pos (.inr h2)])
    clear h hs h0
    go_enter Tryd.func29, Tryd.ntmps29
    go_wp2_with fail
    go_ret
    exact ⟨congrArg (fun z => Ending.returned (.int .i64 z)) HR.out, Below.refl _ _⟩
  obtain ⟨g, o, i, hi, rfl, hg, hmem, hob⟩ := objs_at h (id := id) (by omega) (by omega)
  obtain rfl : id = (i : Int) + 1 := by omega
  clear hi
  obtain ⟨n1, n2, n3⟩ := hs _ hmem
  have HT2 : Hid (trapF has l ((i : Int) + 1) slot p = if slot < 0 ∨ ((objN l ((i : Int) + 1)).1.1 : Int) ≤ slot ∨ has (objN l ((i : Int) + 1)).1.1 (objN l ((i : Int) + 1)).1.2 slot ≠ p then 2 else 0) := hide (by rw [HT.out, if_neg h0, if_neg (by omega)])
  clear HT h hs hmem h0
  obtain ⟨so, sc, d0, d1, d2, _⟩ := hob
  generalize objN l ((i : Int) + 1) = x at *
  obtain ⟨⟨xn, xm⟩, xs⟩ := x
  obtain ⟨r, hr⟩ : ∃ r, trapF has l ((i : Int) + 1) slot p = r := ⟨_, rfl⟩
  rw [hr] at HT2 ⊢
  clear hr
  have hw : IntKind.i64.wrap ((i : Int) + 1 - 1) = (i : Int) := by rw [IntWalk.i64_in _ ⟨by omega, by omega⟩]; omega
  have hil : (i : Int) < (l.length : Int) := by omega
  have b0 := below_box w (.cells #[.int .i64 (xn : Int), .int .i64 (xm : Int)] 31)
  have HW := hide b0
  have e0 : (w.alloc (.cells #[.int .i64 (xn : Int), .int .i64 (xm : Int)] 31)).cell? ⟨w.heap.size, 0, none⟩ = some (.int .i64 (xn : Int)) := by simp
  have e1 : (w.alloc (.cells #[.int .i64 (xn : Int), .int .i64 (xm : Int)] 31)).cell? ⟨w.heap.size, 1, none⟩ = some (.int .i64 (xm : Int)) := by simp
  clear b0 d2
  generalize l.length = ln at *
  go_enter Tryd.func29, Tryd.ntmps29
  go_upto_region 6 with fail
  show Code.wp _ _ _ _ (w.alloc (.cells #[.int .i64 (xn : Int), .int .i64 (xm : Int)] 31))
  generalize w.alloc (.cells #[.int .i64 (xn : Int), .int .i64 (xm : Int)] 31) = W at *
  by_cases h3 : slot < 0
  · have HR : Hid (2 = r) := hide (by rw [HT2.out, if_pos (.inl h3)])
    go_wp2_with fail
    go_ret
    exact ⟨congrArg (fun z => Ending.returned (.int .i64 z)) HR.out, HW.out⟩
  by_cases h4 : (xn : Int) ≤ slot
  · have HR : Hid (2 = r) := hide (by rw [HT2.out, if_pos (.inr (.inl h4))])
    go_wp2_with fail
    go_ret
    exact ⟨congrArg (fun z => Ending.returned (.int .i64 z)) HR.out, HW.out⟩
  have HP := hide (refPointer_any xn xm slot W n1 n2)
  go_wp2_with fail
  refine HP.out.mono ?_; rintro e w2 ⟨rfl, b2⟩
  have HE := hide (HW.out.trans (b2.mono HW.out.size))
  clear b2 HP
  by_cases h5 : has xn xm slot = p
  · have HR : Hid (0 = r) := hide (by rw [HT2.out, if_neg (by rintro (k | k | k) <;> first | omega | exact k h5)])
    have k5 : (has xn xm slot == p) = true := by simpa using h5
    have k6 : (has xn xm slot != p) = false := by simpa using h5
    clear h5
    generalize has xn xm slot = hv at *
    go_wp2_with fail
    go_ret
    exact ⟨congrArg (fun z => Ending.returned (.int .i64 z)) HR.out, HE.out⟩
  · have HR : Hid (2 = r) := hide (by rw [HT2.out, if_pos (.inr (.inr h5))])
    have k5 : (has xn xm slot == p) = false := by simpa using h5
    have k6 : (has xn xm slot != p) = true := by simpa using h5
    clear h5
    generalize has xn xm slot = hv at *
    go_wp2_with fail
    go_ret
    exact ⟨congrArg (fun z => Ending.returned (.int .i64 z)) HR.out, HE.out⟩
end Go.Proofs.YthmeafnofckoiaaDoor
