/- Layer 12, the reference over memory: what a slot holds, whether there is a slot, shapes, words. -/
import Derived.Test.YthmeafnofckoiaaDoorPlB
namespace Go.Proofs.YthmeafnofckoiaaDoor
open Go Go.RowKit
open Layertwelve (Ob trapF objN loadF storeF slotF wordsF shapeF makeF)

set_option maxHeartbeats 1000000 in
set_option maxRecDepth 20000 in
theorem rload_any (l : List Ob) (id slot : Int) (p : Bool) (ao : Option Addr) (c : Nat) (w : World) (h : ObjsR w l (.slice ao l.length c)) (hs : ∀ o ∈ l, Sh o) :
    Calls Tryd.prog 12 #[.slice ao l.length c, .int .i64 id, .int .i64 slot, .bool p] w fun e w' => e = .returned (.tuple #[.int .i64 (loadF has l id slot p).1, .int .i64 (loadF has l id slot p).2]) ∧ Below w.heap.size w w' := by
  have hl : l.length ≤ maxLen := by obtain ⟨_, _, _, k1, k2, _⟩ := h; exact Nat.le_trans k1 k2
  unfold maxLen at hl
  have CT := hide (rtrap_any l id slot p ao c w h hs)
  by_cases ht : trapF has l id slot p = 0
  · have HI := Layertwelve.trap_in ht
    obtain ⟨g, o, i, hi, rfl, hg, hmem, hob⟩ := objs_at h (id := id) (by omega) (by omega)
    obtain rfl : id = (i : Int) + 1 := by omega
    obtain ⟨n1, n2, n3⟩ := hs _ hmem
    clear hi
    obtain ⟨k, rfl⟩ : ∃ k : Nat, slot = (k : Int) := ⟨slot.toNat, by omega⟩
    have HL : Hid (loadF has l ((i : Int) + 1) k p = ((objN l ((i : Int) + 1)).2.getD k 0, 0)) := hide (by unfold loadF; rw [if_neg (by simpa using ht)]; rfl)
    rw [HL.out, ht] at *
    clear HL ht h hs hmem
    generalize objN l ((i : Int) + 1) = x at *
    obtain ⟨⟨xn, xm⟩, xs⟩ := x
    have hks : k < xs.length := by
      have h1 := HI.2.2.2.1
      have h2 : xs.length = xn := n3
      have h3 : (k : Int) < (xn : Int) := h1
      omega
    obtain ⟨so, sc, d0, d1, d2, d3, d4, d5⟩ := hob
    obtain ⟨b, q, rfl, hb, d6⟩ : ∃ b q, so = some ⟨b, q, none⟩ ∧ b < w.heap.size ∧ ∀ i n, xs[i]? = some n → w.cell? ⟨b, q + i, none⟩ = some (.int .i64 n) := by
      rcases d3 with d3 | d3
      · have e : xs = [] := d3
        subst e; simp at hks
      · exact d3
    have d7 := d6 k _ (show xs[k]? = some (xs.getD k 0) by rw [List.getD_eq_getElem?_getD, List.getElem?_eq_getElem hks]; rfl)
    have hil : (i : Int) < (l.length : Int) := by omega
    have hkI : (k : Int) < (xs.length : Int) := by omega
    have hw : IntKind.i64.wrap ((i : Int) + 1 - 1) = (i : Int) := by rw [IntWalk.i64_in _ ⟨by omega, by omega⟩]; omega
    have HC : Hid (∀ w', Below w.heap.size w w' → w'.cell? ⟨g, o + i * 3 + 2, none⟩ = some (.slice (some ⟨b, q, none⟩) xs.length sc) ∧ w'.cell? ⟨b, q + k, none⟩ = some (.int .i64 (xs.getD k 0))) := hide (fun w' bb => ⟨(bb.cell (p := ⟨g, o + i * 3 + 2, none⟩) hg).trans d2, (bb.cell (p := ⟨b, q + k, none⟩) hb).trans d7⟩)
    clear d0 d1 d2 d3 d6 d7 HI n1 n2 n3
    generalize xs.getD k 0 = r at *
    generalize xs.length = xl at *
    generalize l.length = ln at *
    go_enter Tryd.func12, Tryd.ntmps12
    go_wp2_with fail
    refine CT.out.mono ?_; rintro e w1 ⟨rfl, b1⟩
    obtain ⟨c2, c7⟩ := HC.out w1 b1
    have HB := hide b1
    clear b1 HC
    go_wp2_with fail
    exact bodyPost_ret (v := .tuple #[_, _]) (by simp [results, Tryd.results12, go_sem]) rfl ⟨rfl, HB.out⟩
  · have HL : Hid (loadF has l id slot p = (0, trapF has l id slot p)) := hide (by unfold loadF; rw [if_pos (by simpa using ht)])
    rw [HL.out]
    generalize trapF has l id slot p = t at *
    have k1 : (t == 0) = false := by simpa using ht
    have k2 : (t != 0) = true := by simpa using ht
    clear HL h hs ht
    go_enter Tryd.func12, Tryd.ntmps12
    go_wp2_with fail
    refine CT.out.mono ?_; rintro e w1 ⟨rfl, b1⟩
    have HB := hide b1
    clear b1
    go_wp2_with fail
    exact bodyPost_ret (v := .tuple #[_, _]) (by simp [results, Tryd.results12, go_sem]) rfl ⟨rfl, HB.out⟩
set_option maxHeartbeats 1000000 in
set_option maxRecDepth 20000 in
theorem rslot_any (l : List Ob) (id slot : Int) (ao : Option Addr) (c : Nat) (w : World) (h : ObjsR w l (.slice ao l.length c)) (hs : ∀ o ∈ l, Sh o) :
    Calls Tryd.prog 20 #[.slice ao l.length c, .int .i64 id, .int .i64 slot] w fun e w' => e = .returned (.int .i64 (slotF has l id slot)) ∧ Below w.heap.size w w' := by
  have CT := hide (rtrap_any l id slot true ao c w h hs)
  have CF := hide (fun w' (b : Below w.heap.size w w') => rtrap_any l id slot false ao c w' (h.below b) hs)
  have HS : Hid (slotF has l id slot = if trapF has l id slot true = 0 ∨ trapF has l id slot false = 0 then 0 else trapF has l id slot true) := hide rfl
  clear h hs
  obtain ⟨r, hr⟩ : ∃ r, slotF has l id slot = r := ⟨_, rfl⟩
  rw [hr] at HS ⊢
  clear hr
  generalize trapF has l id slot true = t at *
  generalize trapF has l id slot false = u at *
  go_enter Tryd.func20, Tryd.ntmps20
  go_wp2_with fail
  refine CT.out.mono ?_; rintro e w1 ⟨rfl, b1⟩
  have B1 := hide b1
  clear b1 CT
  go_wp2_with fail
  refine (CF.out w1 B1.out).mono ?_; rintro e w2 ⟨rfl, b2⟩
  have HB := hide (B1.out.trans (b2.mono B1.out.size))
  clear b2 CF
  by_cases h1 : t = 0
  · have HR : Hid (0 = r) := hide (by rw [HS.out, if_pos (.inl h1)])
    have k1 : (t == 0) = true := by simpa using h1
    clear h1
    go_wp2_with fail
    go_ret
    exact ⟨congrArg (fun z => Ending.returned (.int .i64 z)) HR.out, HB.out⟩
  have k1 : (t == 0) = false := by simpa using h1
  by_cases h2 : u = 0
  · have HR : Hid (0 = r) := hide (by rw [HS.out, if_pos (.inr h2)])
    have k2 : (u == 0) = true := by simpa using h2
    clear h1 h2
    go_wp2_with fail
    go_ret
    exact ⟨congrArg (fun z => Ending.returned (.int .i64 z)) HR.out, HB.out⟩
  · have HR : Hid (t = r) := hide (by rw [HS.out, if_neg (by rintro (k | k) <;> contradiction)])
    have k2 : (u == 0) = false := by simpa using h2
    clear h1 h2
    go_wp2_with fail
    go_ret
    exact ⟨congrArg (fun z => Ending.returned (.int .i64 z)) HR.out, HB.out⟩
set_option maxHeartbeats 1000000 in
set_option maxRecDepth 20000 in
theorem rwords_any (l : List Ob) (ao : Option Addr) (c : Nat) (w : World) (h : ObjsR w l (.slice ao l.length c)) (hs : ∀ o ∈ l, Sh o) (hn : l.length ≤ 1000000) :
    Calls Tryd.prog 18 #[.slice ao l.length c] w fun e w' => e = .returned (.int .i64 (wordsF l : Int)) ∧ Below w.heap.size w w' := by
  have HA : Hid (∀ i, i < l.length → ∃ g o so sc, ao = some ⟨g, o, none⟩ ∧ w.cell? ⟨g, o + i * 3 + 2, none⟩ = some (.slice so (objN l ((i : Int) + 1)).2.length sc) ∧ (objN l ((i : Int) + 1)).2.length ≤ 16) := hide (fun i hi => by
    obtain ⟨g, o, j, hj, e, hg, hmem, hob⟩ := objs_at h (id := (i : Int) + 1) (by omega) (by omega)
    obtain rfl : j = i := by omega
    obtain ⟨so, sc, _, _, d2, _⟩ := hob
    obtain ⟨n1, _, n3⟩ := hs _ hmem
    exact ⟨g, o, so, sc, e, d2, by omega⟩)
  have HW : Hid (∀ i, i < l.length → wordsF (l.take (i + 1)) = wordsF (l.take i) + ((objN l ((i : Int) + 1)).2.length + 1)) := hide (fun i hi => by
    unfold wordsF
    have e := Layertwelve.objN_mem (l := l) (id := (i : Int) + 1) (by omega) (by omega)
    have e2 : ((i : Int) + 1 - 1).toNat = i := by omega
    rw [e2] at e
    rw [List.take_add_one, e]
    simp)
  have HB : Hid (∀ i, wordsF (l.take i) ≤ i * 17) := hide (fun i => by
    induction i with
    | zero => simp [wordsF]
    | succ i ih =>
      by_cases hi : i < l.length
      · rw [HW.out i hi]
        obtain ⟨_, _, _, _, _, _, h3⟩ := HA.out i hi
        omega
      · rw [List.take_of_length_le (by omega)] at ih ⊢
        omega)
  have HE : Hid (l.take l.length = l) := hide (List.take_length)
  clear h hs
  obtain ⟨ln, hln⟩ : ∃ n, n = l.length := ⟨_, rfl⟩
  rw [← hln] at HA HW HE hn ⊢
  clear hln
  go_enter Tryd.func18, Tryd.ntmps18
  go_wp2_with fail
  go_loopw [3, 4] (fun nv iv wr => ∃ i : Nat, i ≤ ln ∧ nv = .int .i64 (wordsF (l.take i) : Int) ∧ iv = .int .i64 i ∧ wr = w) (fun _ iv _ => ln - (intOf iv).toNat)
  case atStart => exact ⟨0, Nat.zero_le _, by simp [wordsF], rfl, rfl⟩
  case round =>
    obtain ⟨i, hi, rfl, rfl, rfl⟩ := hrel
    have hbd := HB.out i
    by_cases hit : i < ln
    · have hiI : (i : Int) < ln := by omega
      obtain ⟨g, o, so, sc, rfl, d2, h16⟩ := HA.out i hit
      have HN := hide (HW.out i hit)
      have hb2 := HB.out (i + 1)
      rw [HN.out] at hb2
      generalize (objN l ((i : Int) + 1)).2.length = xl at *
      generalize wordsF (l.take i) = a at *
      have HN2 : Hid ((wordsF (l.take (i + 1)) : Int) = (a : Int) + 1 + xl) := hide (by rw [HN.out]; omega)
      clear HN
      go_wp2_with fail
      go_roundw
      case rel => exact ⟨i + 1, by omega, by rw [HN2.out], by go_num, by simp⟩
      case measure => simp [intOf]; omega
    · obtain rfl : i = ln := by omega
      have HQ : Hid ((wordsF (l.take i) : Int) = (wordsF l : Int)) := hide (by rw [HE.out])
      generalize wordsF (l.take i) = a at *
      go_wp2_with fail
      go_ret
      exact ⟨congrArg (fun z => Ending.returned (.int .i64 z)) HQ.out, Below.refl _ _⟩
end Go.Proofs.YthmeafnofckoiaaDoor
