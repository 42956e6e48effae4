/- Layer 12, the program over memory: where a slot stands, and what it holds. -/
import Derived.Test.YthmeafnofckoiaaDoorPmB
namespace Go.Proofs.YthmeafnofckoiaaDoor
open Go Go.RowKit
open Layertwelve (Ob trapF objN loadF storeF slotF wordsF shapeF makeF firstF slotsF goF reachF)

theorem slotF_zero {l : List Ob} {id slot : Int} {p : Bool} (h : trapF has l id slot p = 0) : slotF has l id slot = 0 := by
  unfold slotF
  rw [if_pos (by cases p <;> simp [h])]
/-- What is wrong though there is the slot: it holds something else. -/
theorem trap_kind {l : List Ob} {id slot : Int} {p : Bool} (h : trapF has l id slot p ≠ 0) (h0 : slotF has l id slot = 0) : trapF has l id slot p = 2 ∧ 1 ≤ id ∧ id ≤ l.length ∧ 0 ≤ slot ∧ slot < (objN l id).1.1 ∧ has (objN l id).1.1 (objN l id).1.2 slot ≠ p := by
  rw [slotF_eq] at h0
  by_cases h1 : id = 0
  · rw [if_pos h1] at h0; cases h0
  rw [if_neg h1] at h0
  by_cases h2 : id < 0 ∨ (l.length : Int) < id
  · rw [if_pos h2] at h0; cases h0
  rw [if_neg h2] at h0
  by_cases h3 : slot < 0 ∨ ((objN l id).1.1 : Int) ≤ slot
  · rw [if_pos h3] at h0; cases h0
  have e : trapF has l id slot p = if slot < 0 ∨ ((objN l id).1.1 : Int) ≤ slot ∨ has (objN l id).1.1 (objN l id).1.2 slot ≠ p then 2 else 0 := by
    unfold trapF; rw [if_neg h1, if_neg h2]; rfl
  by_cases h4 : has (objN l id).1.1 (objN l id).1.2 slot ≠ p
  · exact ⟨by rw [e, if_pos (.inr (.inr h4))], by omega, by omega, by omega, by omega, h4⟩
  · exfalso
    apply h
    rw [e, if_neg (by rintro (k | k | k) <;> first | exact h3 (.inl k) | exact h3 (.inr k) | exact h4 k)]
theorem slotF_trap {l : List Ob} {id slot : Int} {p : Bool} (h0 : slotF has l id slot ≠ 0) : trapF has l id slot p = slotF has l id slot := by
  have hs := slotF_eq l id slot
  have h : slotF has l id slot ≠ 0 := h0
  rw [hs] at h ⊢
  have e : trapF has l id slot p = if id = 0 then 1 else if id < 0 ∨ (l.length : Int) < id then 2 else if slot < 0 ∨ ((objN l id).1.1 : Int) ≤ slot ∨ has (objN l id).1.1 (objN l id).1.2 slot ≠ p then 2 else 0 := rfl
  rw [e]
  by_cases h1 : id = 0
  · rw [if_pos h1, if_pos h1]
  rw [if_neg h1, if_neg h1] at *
  by_cases h2 : id < 0 ∨ (l.length : Int) < id
  · rw [if_pos h2, if_pos h2]
  rw [if_neg h2, if_neg h2] at *
  by_cases h3 : slot < 0 ∨ ((objN l id).1.1 : Int) ≤ slot
  · rw [if_pos h3, if_pos (h3.elim .inl (fun k => .inr (.inl k)))]
  · rw [if_neg h3] at h; exact absurd rfl h
/-- The slots of an object stand there. -/
def SlotAt (w : World) (l : List Ob) (gp i b q : Nat) : Prop := ∃ g o c sc, w.cell? ⟨gp, 0, none⟩ = some (.slice (some ⟨g, o, none⟩) l.length c) ∧ g < w.heap.size ∧ gp < w.heap.size ∧ l.length ≤ maxLen ∧ w.cell? ⟨g, o + i * 3, none⟩ = some (.int .i64 ((objN l ((i : Int) + 1)).1.1 : Int)) ∧
  w.cell? ⟨g, o + i * 3 + 1, none⟩ = some (.int .i64 ((objN l ((i : Int) + 1)).1.2 : Int)) ∧ w.cell? ⟨g, o + i * 3 + 2, none⟩ = some (.slice (some ⟨b, q, none⟩) (objN l ((i : Int) + 1)).2.length sc)
theorem SlotAt.below {w w' : World} {l : List Ob} {gp i b q : Nat} (h : SlotAt w l gp i b q) (bl : Below w.heap.size w w') : SlotAt w' l gp i b q := by
  obtain ⟨g, o, c, sc, c0, hg, hp, hl, d0, d1, d2⟩ := h
  exact ⟨g, o, c, sc, (bl.cell (p := ⟨gp, 0, none⟩) hp).trans c0, Nat.lt_of_lt_of_le hg bl.size, Nat.lt_of_lt_of_le hp bl.size, hl, (bl.cell (p := ⟨g, o + i * 3, none⟩) hg).trans d0, (bl.cell (p := ⟨g, o + i * 3 + 1, none⟩) hg).trans d1, (bl.cell (p := ⟨g, o + i * 3 + 2, none⟩) hg).trans d2⟩
set_option maxHeartbeats 1000000 in
set_option maxRecDepth 20000 in
theorem held_yes (l : List Ob) (i k : Nat) (p : Bool) (gp b q : Nat) (w : World) (h : PoolR w l gp) (hs : ∀ o ∈ l, Sh o) (ht : Tab w) (h0 : trapF has l ((i : Int) + 1) k p = 0) (ha : SlotAt w l gp i b q) :
    Calls Tryd.prog 28 #[.pointer (some ⟨gp, 0, none⟩), .int .i64 ((i : Int) + 1), .int .i64 (k : Int), .bool p] w fun e w' => e = .returned (.tuple #[.pointer (some ⟨b, q + k, none⟩), .int .i64 0]) ∧ Below w.heap.size w w' := by
  have HI := Layertwelve.trap_in h0
  have CS := hide (pslot_any l ((i : Int) + 1) k gp w h hs)
  rw [slotF_zero h0] at CS
  have hmem := List.mem_of_getElem? (Layertwelve.objN_mem HI.1 HI.2.1)
  obtain ⟨n1, n2, n3⟩ := hs _ hmem
  have hl : i < l.length := by have := HI.2.1; omega
  have HF := hide (fun w1 (bl : Below w.heap.size w w1) => by
    obtain ⟨g, o, c, sc, c0, hg, hp, hl2, d0, d1, d2⟩ := ha.below bl
    exact Exists.intro sc (find_yes i gp l.length c g o _ _ (some ⟨b, q, none⟩) _ sc w1 c0 hp hl2 hl hg d0 d1 d2))
  have HT := hide ht
  have hlen : l.length ≤ maxLen := by obtain ⟨_, _, _, _, _, _, _, hl2, _⟩ := ha; exact hl2
  unfold maxLen at hlen
  have hbig : i < 9223372036854775807 := by omega
  have hk : (k : Int) < ((objN l ((i : Int) + 1)).1.1 : Int) := HI.2.2.2.1
  have HP : Hid (has (objN l ((i : Int) + 1)).1.1 (objN l ((i : Int) + 1)).1.2 (k : Int) = p) := hide HI.2.2.2.2
  clear HI h hs ht h0 ha hmem
  generalize objN l ((i : Int) + 1) = x at *
  obtain ⟨⟨xn, xm⟩, xs⟩ := x
  have n4 : xs.length = xn := n3
  have HF2 : Hid (∀ w1, Below w.heap.size w w1 → ∃ sc, Calls Tryd.prog 30 #[.pointer (some ⟨gp, 0, none⟩), .int .i64 ((i : Int) + 1)] w1 fun e w' => e = .returned (.tuple #[obV xn xm (.slice (some ⟨b, q, none⟩) xn sc), .bool true]) ∧ Below w1.heap.size w1 w') := hide (fun w1 bl => by
    obtain ⟨sc, hh⟩ := HF.out w1 bl
    rw [show xs.length = xn from n3] at hh
    exact ⟨sc, hh⟩)
  have hk2 : (k : Int) < (xn : Int) := hk
  have hn1 : xn ≤ 16 := n1
  have hn2 : xm < 2 ^ xn := n2
  have HP2 : Hid (has xn xm (k : Int) = p) := HP
  clear HF n3 n4 hk n1 n2 HP
  go_enter Tryd.func28, Tryd.ntmps28
  go_wp2_with fail
  refine CS.out.mono ?_; rintro e w1 ⟨rfl, b1⟩
  obtain ⟨sc, F2⟩ := HF2.out w1 b1
  have HF3 := hide F2
  have B1 := hide b1
  clear b1 CS F2 HF2
  go_wp2_with fail
  refine HF3.out.mono ?_; rintro e w2 ⟨rfl, b2⟩
  have B2 := hide (B1.out.trans (b2.mono B1.out.size))
  clear b2 HF3 B1
  have HQ := hide (pointer_any xn xm (k : Int) (w2.alloc (.cells #[.int .i64 (xn : Int), .int .i64 (xm : Int), .slice (some ⟨b, q, none⟩) xn sc] 66)) hn1 hn2 ((HT.out.below B2.out).below (below_box _ _)))
  have e0 := HP2.out
  rw [HP2.out] at HQ
  go_wp2_with fail
  refine HQ.out.mono ?_; rintro e w3 ⟨rfl, b3⟩
  have d2 : w3.cell? ⟨w2.heap.size, 2, none⟩ = some (.slice (some ⟨b, q, none⟩) xn sc) := (b3.cell (p := ⟨w2.heap.size, 2, none⟩) (by simp)).trans (by simp)
  have B3 := hide ((B2.out.alloc B2.out.size _).trans (b3.mono (Nat.le_trans B2.out.size (by simp))))
  have hpp : (p == p) = true := by simp
  have hpq : (p != p) = false := by simp
  clear b3 HQ B2 e0 HP2
  go_wp2_with fail
  exact bodyPost_ret (v := .tuple #[_, _]) (by simp [results, Tryd.results28, go_sem]) rfl ⟨rfl, B3.out⟩
set_option maxHeartbeats 1000000 in
set_option maxRecDepth 20000 in
theorem held_no (l : List Ob) (id slot : Int) (p : Bool) (gp : Nat) (w : World) (h : PoolR w l gp) (hs : ∀ o ∈ l, Sh o) (ht : Tab w) (h0 : trapF has l id slot p ≠ 0) :
    Calls Tryd.prog 28 #[.pointer (some ⟨gp, 0, none⟩), .int .i64 id, .int .i64 slot, .bool p] w fun e w' => e = .returned (.tuple #[.pointer none, .int .i64 (trapF has l id slot p)]) ∧ Below w.heap.size w w' := by
  have CS := hide (pslot_any l id slot gp w h hs)
  by_cases hz : slotF has l id slot = 0
  · obtain ⟨t2, i1, i2, s1, s2, hne⟩ := trap_kind h0 hz
    rw [t2]
    rw [hz] at CS
    obtain ⟨ao, c, c0, c1, hg, ho⟩ := h
    have hl : l.length ≤ maxLen := by obtain ⟨_, _, _, k1, k2, _⟩ := ho; exact Nat.le_trans k1 k2
    obtain ⟨g, o, i, hi, rfl, hgg, hmem, hob⟩ := objs_at ho (id := id) i1 i2
    obtain rfl : id = (i : Int) + 1 := by omega
    obtain ⟨n1, n2, n3⟩ := hs _ hmem
    clear n3
    obtain ⟨so, sc, d0, d1, d2, _⟩ := hob
    have HF := hide (fun w1 (bl : Below w.heap.size w w1) => find_yes i gp l.length c g o _ _ so _ sc w1 ((bl.cell (p := ⟨gp, 0, none⟩) hg).trans c0) (Nat.lt_of_lt_of_le hg bl.size) hl (by omega) (Nat.lt_of_lt_of_le hgg bl.size) ((bl.cell (p := ⟨g, o + i * 3, none⟩) hgg).trans d0) ((bl.cell (p := ⟨g, o + i * 3 + 1, none⟩) hgg).trans d1) ((bl.cell (p := ⟨g, o + i * 3 + 2, none⟩) hgg).trans d2))
    have HT := hide ht
    clear c0 c1 d0 d1 d2 ho hs ht h0 hz t2 hi hmem i1 i2
    generalize objN l ((i : Int) + 1) = x at *
    obtain ⟨⟨xn, xm⟩, xs⟩ := x
    have hn1 : xn ≤ 16 := n1
    have hn2 : xm < 2 ^ xn := n2
    have hnp : has xn xm slot ≠ p := hne
    have k5 : (has xn xm slot == p) = false := by simpa using hnp
    have k6 : (has xn xm slot != p) = true := by simpa using hnp
    generalize xs.length = xl at *
    have HQ := hide (fun w2 ww (bl : Below w.heap.size w ww) (b2 : Below ww.heap.size ww w2) => pointer_any xn xm slot w2 hn1 hn2 ((HT.out.below bl).below b2))
    clear n1 n2 hne hnp
    generalize has xn xm slot = hv at *
    go_enter Tryd.func28, Tryd.ntmps28
    go_wp2_with fail
    refine CS.out.mono ?_; rintro e w1 ⟨rfl, b1⟩
    have HF3 := hide (HF.out w1 b1)
    have B1 := hide b1
    clear b1 CS HF
    go_wp2_with fail
    refine HF3.out.mono ?_; rintro e w2 ⟨rfl, b2⟩
    have B2 := hide (B1.out.trans (b2.mono B1.out.size))
    clear b2 HF3 B1
    have HQ2 := hide (HQ.out (w2.alloc (.cells #[.int .i64 (xn : Int), .int .i64 (xm : Int), .slice so xl sc] 66)) w2 B2.out (below_box _ _))
    clear HQ
    go_wp2_with fail
    refine HQ2.out.mono ?_; rintro e w3 ⟨rfl, b3⟩
    have B3 := hide ((B2.out.alloc B2.out.size _).trans (b3.mono (Nat.le_trans B2.out.size (by simp))))
    clear b3 HQ2 B2
    go_wp2_with fail
    exact bodyPost_ret (v := .tuple #[_, _]) (by simp [results, Tryd.results28, go_sem]) rfl ⟨rfl, B3.out⟩
  · rw [slotF_trap (p := p) hz]
    have k1 : (slotF has l id slot == 0) = false := by simpa using hz
    have k2 : (slotF has l id slot != 0) = true := by simpa using hz
    clear h hs ht h0 hz
    generalize slotF has l id slot = t at *
    go_enter Tryd.func28, Tryd.ntmps28
    go_wp2_with fail
    refine CS.out.mono ?_; rintro e w1 ⟨rfl, b1⟩
    have B1 := hide b1
    clear b1 CS
    go_wp2_with fail
    exact bodyPost_ret (v := .tuple #[_, _]) (by simp [results, Tryd.results28, go_sem]) rfl ⟨rfl, B1.out⟩
theorem slot_at {w : World} {l : List Ob} {gp i : Nat} {id : Int} (h : PoolR w l gp) (hi : id = (i : Int) + 1) (h2 : i < l.length) (hne : (objN l id).2 ≠ []) : ∃ b q, b < w.heap.size ∧ SlotAt w l gp i b q ∧ ∀ k n, (objN l id).2[k]? = some n → w.cell? ⟨b, q + k, none⟩ = some (.int .i64 n) := by
  subst hi
  obtain ⟨ao, c, c0, c1, hg, ho⟩ := h
  have hl : l.length ≤ maxLen := by obtain ⟨_, _, _, k1, k2, _⟩ := ho; exact Nat.le_trans k1 k2
  obtain ⟨g, o, j, hj, rfl, hgg, hmem, hob⟩ := objs_at ho (id := (i : Int) + 1) (by omega) (by omega)
  obtain rfl : j = i := by omega
  obtain ⟨so, sc, d0, d1, d2, d3, _⟩ := hob
  rcases d3 with d3 | ⟨b, q, rfl, hb, d6⟩
  · exact absurd d3 hne
  · exact ⟨b, q, hb, ⟨g, o, c, sc, c0, hgg, hg, hl, d0, d1, d2⟩, d6⟩
theorem trap_split {l : List Ob} {id slot : Int} {p : Bool} (hs : ∀ o ∈ l, Sh o) (h : trapF has l id slot p = 0) : ∃ i k : Nat, id = (i : Int) + 1 ∧ slot = (k : Int) ∧ i < l.length ∧ k < (objN l id).2.length := by
  have HI := Layertwelve.trap_in h
  obtain ⟨_, _, n3⟩ := hs _ (List.mem_of_getElem? (Layertwelve.objN_mem HI.1 HI.2.1))
  obtain ⟨h1, h2, h3, h4, _⟩ := HI
  exact ⟨(id - 1).toNat, slot.toNat, by omega, by omega, by omega, by omega⟩
set_option maxHeartbeats 1000000 in
set_option maxRecDepth 20000 in
theorem pload_any (l : List Ob) (id slot : Int) (p : Bool) (gp : Nat) (w : World) (h : PoolR w l gp) (hs : ∀ o ∈ l, Sh o) (ht : Tab w) :
    Calls Tryd.prog 11 #[.pointer (some ⟨gp, 0, none⟩), .int .i64 id, .int .i64 slot, .bool p] w fun e w' => e = .returned (.tuple #[.int .i64 (loadF has l id slot p).1, .int .i64 (loadF has l id slot p).2]) ∧ Below w.heap.size w w' := by
  by_cases h0 : trapF has l id slot p = 0
  · obtain ⟨i, k, rfl, rfl, hi, hk⟩ := trap_split hs h0
    obtain ⟨b, q, hb, ha, hc⟩ := slot_at h rfl hi (fun e => by rw [e] at hk; simp at hk)
    have HL : Hid (loadF has l ((i : Int) + 1) k p = ((objN l ((i : Int) + 1)).2.getD k 0, 0)) := hide (by unfold loadF; rw [if_neg (by simpa using h0)]; rfl)
    rw [HL.out]
    have d := hc k _ (show (objN l ((i : Int) + 1)).2[k]? = some ((objN l ((i : Int) + 1)).2.getD k 0) by rw [List.getD_eq_getElem?_getD, List.getElem?_eq_getElem hk]; rfl)
    have CH := hide (held_yes l i k p gp b q w h hs ht h0 ha)
    have HC := hide (fun w' (bl : Below w.heap.size w w') => (bl.cell (p := ⟨b, q + k, none⟩) hb).trans d)
    clear HL h hs ht h0 ha hc d hk hi
    generalize (objN l ((i : Int) + 1)).2.getD k 0 = r at *
    go_enter Tryd.func11, Tryd.ntmps11
    go_wp2_with fail
    refine CH.out.mono ?_; rintro e w1 ⟨rfl, b1⟩
    have c := HC.out w1 b1
    have B1 := hide b1
    clear b1 CH HC
    go_wp2_with fail
    exact bodyPost_ret (v := .tuple #[_, _]) (by simp [results, Tryd.results11, go_sem]) rfl ⟨rfl, B1.out⟩
  · have HL : Hid (loadF has l id slot p = (0, trapF has l id slot p)) := hide (by unfold loadF; rw [if_pos (by simpa using h0)])
    rw [HL.out]
    have CH := hide (held_no l id slot p gp w h hs ht h0)
    generalize trapF has l id slot p = t at *
    have k1 : (t == 0) = false := by simpa using h0
    have k2 : (t != 0) = true := by simpa using h0
    clear HL h hs ht h0
    go_enter Tryd.func11, Tryd.ntmps11
    go_wp2_with fail
    refine CH.out.mono ?_; rintro e w1 ⟨rfl, b1⟩
    have B1 := hide b1
    clear b1
    go_wp2_with fail
    exact bodyPost_ret (v := .tuple #[_, _]) (by simp [results, Tryd.results11, go_sem]) rfl ⟨rfl, B1.out⟩
end Go.Proofs.YthmeafnofckoiaaDoor
