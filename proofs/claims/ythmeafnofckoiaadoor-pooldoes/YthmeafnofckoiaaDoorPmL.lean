/- Layer 12, the statements' small check. -/
import Derived.Test.YthmeafnofckoiaaDoorPmI
import Derived.Test.YthmeafnofckoiaaDoorPmK
namespace Go.Proofs.YthmeafnofckoiaaDoor
open Go Go.RowKit
open Layertwelve (Ob trapF objN loadF storeF slotF wordsF shapeF makeF firstF slotsF goF reachF Ok)

theorem breach_any {w wr : World} {gp : Nat} {l : List Ob} (from_ : List Int) (fo : Option Addr) (fc : Nat) (h : PB w gp l wr) (hs : ∀ o ∈ l, Sh o) (ht : Tab w) (hl : l.length ≤ 1000) (hf : IntsR wr from_ fo) (hfl : from_.length ≤ 1000) :
    Calls Tryd.prog 24 #[.pointer (some ⟨gp, 0, none⟩), .slice fo from_.length fc] wr fun e w' => ∃ v, e = .returned v ∧ OutR wr (reachF has l from_) v w' ∧ PB w gp l w' :=
  (preach_any l from_ gp fo fc wr (h.read hs) hs (ht.below h.2) hl hf hfl).mono fun _ _ ⟨v, k1, k2⟩ => ⟨v, k1, k2, h.below k2.2⟩
def wl1 : List Ob := [((2, 2), [0, 0])]
def wl2 : List Ob := [((2, 2), [0, 0]), ((1, 0), [0])]
def wl3 : List Ob := [((2, 2), [0, 2]), ((1, 0), [0])]
theorem wl_facts : makeF [] (2, 2) = wl1 ∧ makeF wl1 (1, 0) = wl2 ∧ trapF has wl2 1 1 true = 0 ∧ storeF has wl2 1 1 true 2 = wl3 ∧ loadF has wl3 1 1 true = (2, 0) ∧ loadF has wl3 1 0 true = (0, 2) ∧ loadF has wl3 0 0 false = (0, 1) ∧
    slotF has wl3 1 0 = 0 ∧ slotF has wl3 2 1 = 2 ∧ wordsF wl3 = 5 ∧ reachF has wl3 [1, 9] = [1, 2] ∧ shapeF wl3 2 = (1, 0) := by decide +kernel
theorem wl_sh : (∀ o ∈ wl1, Sh o) ∧ (∀ o ∈ wl2, Sh o) ∧ (∀ o ∈ wl3, Sh o) := by
  refine ⟨?_, ?_, ?_⟩ <;> (intro o ho; simp [wl1, wl2, wl3] at ho) 
  · subst ho; exact ⟨by decide, by decide, rfl⟩
  · rcases ho with rfl | rfl <;> exact ⟨by decide, by decide, rfl⟩
  · rcases ho with rfl | rfl <;> exact ⟨by decide, by decide, rfl⟩
theorem two_ints (w : World) (a b : Int) : IntsR (w.alloc (.cells #[.int .i64 a, .int .i64 b] 3)) [a, b] (some ⟨w.heap.size, 0, none⟩) := by
  refine .inr ⟨w.heap.size, 0, rfl, by simp, fun i n hi => ?_⟩
  match i, hi with
  | 0, hi => simp at hi; subst hi; simp
  | 1, hi => simp at hi; subst hi; simp
theorem IntsR.below {w w' : World} {l : List Int} {ao : Option Addr} (h : IntsR w l ao) (b : Below w.heap.size w w') : IntsR w' l ao := by
  rcases h with h | ⟨q, o, e, hq, h⟩
  · exact .inl h
  · exact .inr ⟨q, o, e, Nat.lt_of_lt_of_le hq b.size, fun i n hi => (b.cell (p := ⟨q, o + i, none⟩) hq).trans (h i n hi)⟩
theorem OutR.val {w wr : World} {l : List Int} {v : Value} (h : OutR w l v wr) : ∃ ao c, v = .slice ao l.length c ∧ IntsR wr l ao := by
  obtain ⟨ao, c, rfl⟩ := own12_len h.1
  exact ⟨ao, c, rfl, ints_row h.1⟩
set_option maxHeartbeats 1000000 in
set_option maxRecDepth 20000 in
theorem works_any (w : World) (ht : Tab w) : Calls Tryd.prog 6 #[] w fun e w' => e = .returned (.bool true) ∧ Below w.heap.size w w' := by
  obtain ⟨f1, f2, f3, f4, f5, f6, f7, f8, f9, f10, f11, f12⟩ := wl_facts
  obtain ⟨s1, s2, s3⟩ := wl_sh
  have C0 := hide (bnew_any w)
  have C1 := hide (fun wr (h : PB w w.heap.size [] wr) => by have := bmake_any 2 2 h (by simp) (by decide) (by decide) (by simp); rw [f1] at this; exact this)
  have C2 := hide (fun wr (h : PB w w.heap.size wl1 wr) => by have := bmake_any 1 0 h s1 (by decide) (by decide) (by decide); rw [f2] at this; exact this)
  have C3 := hide (fun wr (h : PB w w.heap.size wl2 wr) => by have := bstore_any 1 1 true 2 h s2 ht; rw [f3, f4] at this; exact this)
  have C4 := hide (fun wr (h : PB w w.heap.size wl3 wr) => by have := bload_any 1 1 true h s3 ht; rw [f5] at this; exact this)
  have C5 := hide (fun wr (h : PB w w.heap.size wl3 wr) => by have := bload_any 1 0 true h s3 ht; rw [f6] at this; exact this)
  have C6 := hide (fun wr (h : PB w w.heap.size wl3 wr) => by have := bload_any 0 0 false h s3 ht; rw [f7] at this; exact this)
  have C7 := hide (fun wr (h : PB w w.heap.size wl3 wr) => by have := bslot_any 1 0 h s3; rw [f8] at this; exact this)
  have C8 := hide (fun wr (h : PB w w.heap.size wl3 wr) => by have := bslot_any 2 1 h s3; rw [f9] at this; exact this)
  have C9 := hide (fun wr (h : PB w w.heap.size wl3 wr) => plen_any wl3 w.heap.size wr (h.read s3))
  have C10 := hide (fun wr (h : PB w w.heap.size wl3 wr) => by have := pwords_any wl3 w.heap.size wr (h.read s3); rw [f10] at this; exact this)
  have C11 := hide (fun wr fo fc (h : PB w w.heap.size wl3 wr) (hf : IntsR wr [1, 9] fo) => by have := breach_any [1, 9] fo fc h s3 ht (by decide) hf (by decide); rw [f11] at this; exact this)
  have C12 : Hid (∀ wr, PB w w.heap.size wl3 wr → Calls Tryd.prog 21 #[.pointer (some ⟨w.heap.size, 0, none⟩), .int .i64 2] wr fun e w' => e = .returned (.agg #[.int .i64 1, .int .i64 0]) ∧ PB w w.heap.size wl3 w') := hide (fun wr (h : PB w w.heap.size wl3 wr) => by have := bshape_any 2 h s3; rw [f12] at this; exact this)
  clear f1 f2 f3 f4 f5 f6 f7 f8 f9 f10 f11 f12 s1 s2 s3 ht
  go_enter Tryd.func6, Tryd.ntmps6
  go_wp2_with fail
  refine C0.out.mono ?_; rintro e w0 ⟨rfl, p⟩
  have P := hide p
  clear p
  go_wp2_with fail
  refine (C1.out w0 P.out).mono ?_; rintro e w1 ⟨rfl, p⟩
  clear P
  have P := hide p
  clear p
  go_wp2_with fail
  refine (C2.out w1 P.out).mono ?_; rintro e w2 ⟨rfl, p⟩
  clear P
  have P := hide p
  clear p
  go_wp2_with fail
  refine (C3.out w2 P.out).mono ?_; rintro e w3 ⟨rfl, p⟩
  clear P
  have P := hide p
  clear p
  go_wp2_with fail
  refine (C4.out w3 P.out).mono ?_; rintro e w4 ⟨rfl, p⟩
  clear P
  have P := hide p
  clear p
  go_wp2_with fail
  refine (C5.out w4 P.out).mono ?_; rintro e w5 ⟨rfl, p⟩
  clear P
  have P := hide p
  clear p
  go_wp2_with fail
  refine (C6.out w5 P.out).mono ?_; rintro e w6 ⟨rfl, p⟩
  clear P
  have P := hide p
  clear p
  go_wp2_with fail
  refine (C7.out w6 P.out).mono ?_; rintro e w7 ⟨rfl, p⟩
  clear P
  have P := hide p
  clear p
  go_wp2_with fail
  refine (C8.out w7 P.out).mono ?_; rintro e w8 ⟨rfl, p⟩
  clear P
  have P := hide p
  clear p
  go_wp2_with fail
  refine (C9.out w8 P.out).mono ?_; rintro e w9 ⟨rfl, rfl⟩
  go_wp2_with fail
  refine (C10.out w9 P.out).mono ?_; rintro e w10 ⟨rfl, rfl⟩
  have P11 := hide (P.out.below (below_box w10 (.cells #[.int .i64 1, .int .i64 9] 3)))
  have I11 := hide (two_ints w10 1 9)
  clear P
  go_wp2_with fail
  refine (C11.out (w10.alloc (.cells #[.int .i64 1, .int .i64 9] 3)) _ 2 P11.out I11.out).mono ?_; rintro e w11 ⟨v, rfl, o, p⟩
  obtain ⟨ao, c, hv, hi⟩ := o.val
  have hv2 : v = .slice ao 2 c := hv
  subst hv2
  clear hv o
  have P := hide (p.below (below_box w11 (.cells #[.int .i64 1, .int .i64 2] 3)))
  have C13 := hide (ints_same [1, 2] ao (some ⟨w11.heap.size, 0, none⟩) c 2 (w11.alloc (.cells #[.int .i64 1, .int .i64 2] 3)) (hi.below (below_box _ _)) (two_ints w11 1 2) (by decide))
  clear P11 I11 p hi
  go_wp2_with fail
  refine C13.out.mono ?_; rintro e w12 ⟨rfl, b12⟩
  have P12 := hide (P.out.below b12)
  clear b12 C13 P
  have hfl : ∀ w, (Instr.field 31 (.agg #[.int .i64 1, .int .i64 0]) 0).run Tryd.prog w = .ok (.int .i64 1) w := fun _ => rfl
  go_wp2_with fail
  refine (C12.out w12 P12.out).mono ?_; rintro e w13 ⟨rfl, p⟩
  have P := hide p
  clear p P12
  go_wp2_with fail
  go_ret
  exact ⟨rfl, P.out.2⟩
end Go.Proofs.YthmeafnofckoiaaDoor
