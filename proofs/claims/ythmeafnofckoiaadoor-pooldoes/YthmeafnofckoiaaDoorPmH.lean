/- Layer 12, the program over memory: an object is met. -/
import Derived.Test.YthmeafnofckoiaaDoorPmF
namespace Go.Proofs.YthmeafnofckoiaaDoor
open Go Go.RowKit
open Layertwelve (Ob trapF objN loadF storeF slotF wordsF shapeF makeF firstF slotsF goF reachF Ok)

/-- Which were met, as cells. -/
def metRow (n : Nat) (ms : List Int) : Array Value := ((List.range n).map fun (i : Nat) => Value.bool (decide (((i : Int) + 1) ∈ ms))).toArray
theorem metRow_size (n : Nat) (ms : List Int) : (metRow n ms).size = n := by simp [metRow]
theorem metRow_at {n i : Nat} (ms : List Int) (h : i < n) : (metRow n ms)[i]? = some (.bool (decide (((i : Int) + 1) ∈ ms))) := by simp [metRow, h]
theorem metRow_set {n i : Nat} (ms : List Int) : (metRow n ms).setIfInBounds i (.bool true) = metRow n (ms ++ [(i : Int) + 1]) := by
  apply Array.ext
  · simp [metRow]
  · intro j h1 h2
    have hj : j < n := by simpa [metRow] using h2
    rw [Array.getElem_setIfInBounds (by simpa [metRow] using hj)]
    by_cases e : i = j
    · subst e; simp [metRow]
    · rw [if_neg e]
      simp [metRow]
      intro q; omega
/-- What is reached so far, under way: what lies where. -/
def RS (w : World) (n gp bp bm br gm : Nat) (out ms : List Int) (v : Value) (wr : World) : Prop :=
  Below w.heap.size w wr ∧ (w.heap.size ≤ bp ∧ w.heap.size ≤ bm ∧ w.heap.size ≤ br ∧ w.heap.size ≤ gm) ∧ wr.heap[bp]? = some (.cells #[.pointer (some ⟨gp, 0, none⟩)] 24 (0, 0)) ∧ wr.heap[bm]? = some (.cells #[.slice (some ⟨gm, 0, none⟩) n n] 73 (0, 0)) ∧
  wr.heap[gm]? = some (.cells (metRow n ms) 4 (0, 0)) ∧ wr.heap[br]? = some (.cells #[v] 48 (0, 0)) ∧ wr.ownsRow w.heap.size 3 1 v out.length (ints12 out)
theorem RS.below {w wr wr' : World} {n gp bp bm br gm : Nat} {out ms : List Int} {v : Value} (h : RS w n gp bp bm br gm out ms v wr) (b : Below wr.heap.size wr wr') : RS w n gp bp bm br gm out ms v wr' := by
  obtain ⟨h1, h2, h3, h4, h5, h6, h7⟩ := h
  have k : ∀ (q : Nat) (c : Obj), wr.heap[q]? = some c → wr'.heap[q]? = some c := fun q c hq => (b.block q (Array.getElem?_eq_some_iff.1 hq).1).trans hq
  exact ⟨h1.trans (b.mono h1.size), h2, k _ _ h3, k _ _ h4, k _ _ h5, k _ _ h6, own_below b _ _ _ _ _ _ h7⟩
theorem one_cell12 {w : World} {c : Nat} {a : Value} {t : TypeId} (h : w.heap[c]? = some (.cells #[a] t (0, 0))) : w.cell? ⟨c, 0, none⟩ = some a ∧ w.frozen? ⟨c, 0, none⟩ = false := by
  simp [World.cell?, World.frozen?, h]
theorem RS.cells {w wr : World} {n gp bp bm br gm : Nat} {out ms : List Int} {v : Value} (h : RS w n gp bp bm br gm out ms v wr) :
    wr.cell? ⟨bp, 0, none⟩ = some (.pointer (some ⟨gp, 0, none⟩)) ∧ wr.cell? ⟨bm, 0, none⟩ = some (.slice (some ⟨gm, 0, none⟩) n n) ∧ wr.cell? ⟨br, 0, none⟩ = some v ∧ wr.frozen? ⟨br, 0, none⟩ = false ∧
    ∀ i, i < n → wr.cell? ⟨gm, i, none⟩ = some (.bool (decide (((i : Int) + 1) ∈ ms))) ∧ wr.frozen? ⟨gm, i, none⟩ = false := by
  obtain ⟨h1, h2, h3, h4, h5, h6, h7⟩ := h
  refine ⟨(one_cell12 h3).1, (one_cell12 h4).1, (one_cell12 h6).1, (one_cell12 h6).2, fun i hi => ⟨?_, by simp [World.frozen?, h5]⟩⟩
  rw [cell_of_row wr gm i _ 4 (0, 0) h5, metRow_at ms hi]
theorem ne_kind {w : World} {a b : Nat} {c d : Array Value} {s t : TypeId} (ha : w.heap[a]? = some (.cells c s (0, 0))) (hb : w.heap[b]? = some (.cells d t (0, 0))) (h : s ≠ t) : a ≠ b := fun e => by
  rw [e, hb] at ha; injection ha with ha; injection ha with _ ha; exact h ha.symm
theorem own_ne {w : World} {B e s n : Nat} {v : Value} {xs : List Value} (h : w.ownsRow B e s v n xs) {a : Nat} {c : Array Value} {t : TypeId} (ha : w.heap[a]? = some (.cells c t (0, 0))) (ht : t ≠ e) : v.ownBlock ≠ some a := fun q => by
  obtain ⟨c', hc⟩ := own_kind h q
  exact ne_kind ha hc ht rfl
/-- Objects' boxes stay. -/
def K66 (a b : World) : Prop := ∀ (q : Nat) (c : Array Value), a.heap[q]? = some (.cells c 66 (0, 0)) → b.heap[q]? = some (.cells c 66 (0, 0))
theorem K66.trans {a b c : World} (h : K66 a b) (k : K66 b c) : K66 a c := fun q x hx => k q x (h q x hx)
theorem k66_below {a b : World} (h : Below a.heap.size a b) : K66 a b := fun q _ hx => (h.block q (Array.getElem?_eq_some_iff.1 hx).1).trans hx
theorem k66_set {a : World} {g i : Nat} {d : Array Value} {t : TypeId} (hg : a.heap[g]? = some (.cells d t (0, 0))) (ht : (66 : TypeId) ≠ t) (u : Value) : K66 a (a.setCell ⟨g, i, none⟩ u) := fun q _ hx => (Below.heap_setCell a ⟨g, i, none⟩ u q (ne_kind hx hg ht)).trans hx
theorem k66_grow {a b : World} {B n : Nat} {v : Value} {xs : List Value} (h : a.ownsRow B 3 1 v n xs) (hg : a.grownBy b v.ownBlock) : K66 a b := fun q _ hx => (hg.block q (Array.getElem?_eq_some_iff.1 hx).1 (fun e => own_ne h hx (by decide) e.symm)).trans hx
theorem RS.mark {w wr : World} {n gp bp bm br gm i : Nat} {out ms : List Int} {v : Value} (h : RS w n gp bp bm br gm out ms v wr) :
    RS w n gp bp bm br gm out (ms ++ [(i : Int) + 1]) v (wr.setCell ⟨gm, i, none⟩ (.bool true)) := by
  obtain ⟨h1, h2, h3, h4, h5, h6, h7⟩ := h
  refine ⟨h1.setCell (p := ⟨gm, i, none⟩) h2.2.2.2 _, h2, ?_, ?_, ?_, ?_, own_setCell h7 (own_ne h7 h5 (by decide)) _⟩
  · exact (Below.heap_setCell _ _ _ _ (ne_kind h3 h5 (by decide))).trans h3
  · exact (Below.heap_setCell _ _ _ _ (ne_kind h4 h5 (by decide))).trans h4
  · rw [heap_setCell_same wr gm i _ 4 (.bool true) h5, metRow_set]
  · exact (Below.heap_setCell _ _ _ _ (ne_kind h6 h5 (by decide))).trans h6
theorem RS.add {w wr w2 : World} {n gp bp bm br gm : Nat} {out ms : List Int} {v v' : Value} {x : Int} (h : RS w n gp bp bm br gm out ms v wr)
    (own : w2.ownsRow w.heap.size 3 1 v' (out.length + 1) (ints12 out ++ [.int .i64 x])) (hg : (wr.alloc (.cells #[.int .i64 x] 3)).grownBy w2 v.ownBlock) : RS w n gp bp bm br gm (out ++ [x]) ms v' (w2.setCell ⟨br, 0, none⟩ v') ∧ w2.cell? ⟨br, 0, none⟩ = some v ∧ w2.frozen? ⟨br, 0, none⟩ = false ∧ K66 wr (w2.setCell ⟨br, 0, none⟩ v') := by
  obtain ⟨h1, h2, h3, h4, h5, h6, h7⟩ := h
  have bx := below_box wr (.cells #[.int .i64 x] 3)
  have k : ∀ (q : Nat) (c : Array Value) (t : TypeId), wr.heap[q]? = some (.cells c t (0, 0)) → t ≠ 3 → w2.heap[q]? = some (.cells c t (0, 0)) := fun q c t hq ht => by
    have hlt := (Array.getElem?_eq_some_iff.1 hq).1
    exact (hg.block q (by have := bx.size; omega) (fun e => own_ne h7 hq ht e.symm)).trans ((bx.block q hlt).trans hq)
  have k6 := k _ _ _ h6 (by decide)
  have hb2 : Below w.heap.size w w2 := by
    refine ⟨hg.os.trans (bx.os.trans h1.os), hg.tape.trans (bx.tape.trans h1.tape), hg.output.trans (bx.output.trans h1.output), Nat.le_trans h1.size (Nat.le_trans bx.size hg.size), fun q hq => ?_⟩
    have hz := h1.size
    have hz2 := bx.size
    exact (hg.block q (by omega) (fun e => by have := (h7.lt q e.symm).1; omega)).trans ((bx.block q (by omega)).trans (h1.block q hq))
  refine ⟨⟨hb2.setCell (p := ⟨br, 0, none⟩) h2.2.2.1 _, h2, ?_, ?_, ?_, ?_, ?_⟩, (one_cell12 k6).1, (one_cell12 k6).2, ((k66_below bx).trans (k66_grow (h7.alloc _) hg)).trans (k66_set k6 (by decide) _)⟩
  · exact (Below.heap_setCell _ _ _ _ (ne_kind h3 h6 (by decide))).trans (k _ _ _ h3 (by decide))
  · exact (Below.heap_setCell _ _ _ _ (ne_kind h4 h6 (by decide))).trans (k _ _ _ h4 (by decide))
  · exact (Below.heap_setCell _ _ _ _ (ne_kind h5 h6 (by decide))).trans (k _ _ _ h5 (by decide))
  · have := heap_setCell_same w2 br 0 _ 48 v' k6
    simpa using this
  · have e : ints12 (out ++ [x]) = ints12 out ++ [.int .i64 x] := by simp [ints12]
    rw [e, List.length_append]
    exact own_setCell own (own_ne own k6 (by decide)) _
/-- One more is met. -/
def meetF (n : Nat) (x : Int) (out : List Int) : List Int := if 1 ≤ x ∧ x ≤ (n : Int) ∧ x ∉ out then out ++ [x] else out
set_option maxHeartbeats 1000000 in
set_option maxRecDepth 20000 in
theorem meet_any (l : List Ob) (x : Int) (gp bp bm br gm : Nat) (out : List Int) (v : Value) (w wr : World) (hp : PoolR w l gp) (hl : l.length ≤ 1000) (ho : Ok l.length out) (h : RS w l.length gp bp bm br gm out out v wr) :
    Calls Tryd.prog 31 #[.int .i64 x, .pointer (some ⟨bp, 0, none⟩), .pointer (some ⟨bm, 0, none⟩), .pointer (some ⟨br, 0, none⟩)] wr fun e w' => e = .returned (.tuple #[]) ∧ K66 wr w' ∧ ∃ v', RS w l.length gp bp bm br gm (meetF l.length x out) (meetF l.length x out) v' w' := by
  have hpr := hp.below h.1
  obtain ⟨ao, c, c0, c1, hg, hob⟩ := hpr
  have hlen := ho.len
  by_cases h1 : x ≤ 0 ∨ (l.length : Int) < x
  · have HF := hide (find_no x gp l.length c ao wr c0 hg h1)
    have HM : Hid (meetF l.length x out = out) := hide (by unfold meetF; rw [if_neg (by omega)])
    have p0 := h.cells.1
    have HR := hide (fun w' (b : Below wr.heap.size wr w') => And.intro (k66_below b) (h.below b))
    rw [HM.out]
    clear c0 c1 hob h1 hp h
    go_enter Tryd.func31, Tryd.ntmps31
    go_wp2_with fail
    refine HF.out.mono ?_; rintro e w1 ⟨rfl, b1⟩
    have HR2 := hide (HR.out _ (b1.trans ((below_box w1 (.cells #[.int .i64 0, .int .i64 0, .slice none 0 0] 66)).mono b1.size)))
    clear b1 HF HR
    go_wp2_with fail
    go_end0
    exact ⟨rfl, HR2.out.1, v, HR2.out.2⟩
  · obtain ⟨g, o, i, hi, rfl, hgg, hmem, hobj⟩ := objs_at hob (id := x) (by omega) (by omega)
    obtain rfl : x = (i : Int) + 1 := by omega
    obtain ⟨so, sc, d0, d1, d2, _⟩ := hobj
    have hil : i < l.length := by omega
    have HF := hide (find_yes i gp l.length c g o _ _ so _ sc wr c0 hg (by unfold maxLen; omega) hil hgg d0 d1 d2)
    have p0 := h.cells.1
    clear c0 c1 hob hp hi hmem d0 d1 d2
    generalize objN l ((i : Int) + 1) = xo at *
    obtain ⟨⟨xn, xm⟩, xs⟩ := xo
    generalize xs.length = xl at *
    generalize l.length = ln at *
    have hilI : (i : Int) < (ln : Int) := by omega
    have hw : IntKind.i64.wrap ((i : Int) + 1 - 1) = (i : Int) := by rw [IntWalk.i64_in _ ⟨by omega, by omega⟩]; omega
    by_cases hin : ((i : Int) + 1) ∈ out
    · have HM : Hid (meetF ln ((i : Int) + 1) out = out) := hide (by unfold meetF; rw [if_neg (fun q => q.2.2 hin)])
      rw [HM.out]
      have HR := hide (fun w' (b : Below wr.heap.size wr w') => And.intro (k66_below b) (h.below b))
      have hdt : decide (((i : Int) + 1) ∈ out) = true := decide_eq_true hin
      clear h hin
      go_enter Tryd.func31, Tryd.ntmps31
      go_wp2_with fail
      refine HF.out.mono ?_; rintro e w1 ⟨rfl, b1⟩
      obtain ⟨KR, R2⟩ := HR.out _ (b1.trans ((below_box w1 (.cells #[.int .i64 (xn : Int), .int .i64 (xm : Int), .slice so xl sc] 66)).mono b1.size))
      clear b1 HF HR
      go_upto_region 1 with fail
      show Code.wp _ _ _ _ (w1.alloc (.cells #[.int .i64 (xn : Int), .int .i64 (xm : Int), .slice so xl sc] 66))
      generalize w1.alloc (.cells #[.int .i64 (xn : Int), .int .i64 (xm : Int), .slice so xl sc] 66) = w2 at *
      obtain ⟨q0, q1, q2, q3, q4⟩ := R2.cells
      obtain ⟨q5, q6⟩ := q4 i hil
      rw [hdt] at q5
      have HR2 := hide R2
      have HKR := hide KR
      clear R2 q4 KR
      go_wp2_with fail
      go_end0
      exact ⟨rfl, HKR.out, v, HR2.out⟩
    · have HM : Hid (meetF ln ((i : Int) + 1) out = out ++ [(i : Int) + 1]) := hide (by unfold meetF; rw [if_pos ⟨by omega, by omega, hin⟩])
      rw [HM.out]
      have HR := hide (fun w' (b : Below wr.heap.size wr w') => And.intro (k66_below b) (h.below b))
      have hdt : decide (((i : Int) + 1) ∈ out) = false := decide_eq_false hin
      clear h hin
      obtain ⟨i0, hi0, hiz, his, hib⟩ := info12_parts Tryd.info3
      go_enter Tryd.func31, Tryd.ntmps31
      go_wp2_with fail
      refine HF.out.mono ?_; rintro e w1 ⟨rfl, b1⟩
      obtain ⟨KR, R2⟩ := HR.out _ (b1.trans ((below_box w1 (.cells #[.int .i64 (xn : Int), .int .i64 (xm : Int), .slice so xl sc] 66)).mono b1.size))
      clear b1 HF HR
      go_upto_region 1 with fail
      show Code.wp _ _ _ _ (w1.alloc (.cells #[.int .i64 (xn : Int), .int .i64 (xm : Int), .slice so xl sc] 66))
      generalize w1.alloc (.cells #[.int .i64 (xn : Int), .int .i64 (xm : Int), .slice so xl sc] 66) = w2 at *
      obtain ⟨q0, q1, q2, q3, q4⟩ := R2.cells
      obtain ⟨q5, q6⟩ := q4 i hil
      rw [hdt] at q5
      have R3 := R2.mark (i := i)
      have K3 := KR.trans (k66_set (i := i) R2.2.2.2.2.1 (by decide) (.bool true))
      clear KR R2 q4 q2 q3
      go_upto_region 3 with fail
      show Code.wp _ _ _ _ (w2.setCell ⟨gm, i, none⟩ (.bool true))
      generalize w2.setCell ⟨gm, i, none⟩ (.bool true) = w3 at *
      obtain ⟨s0, s1, s2, s3, _⟩ := R3.cells
      obtain ⟨vo, vc, hv⟩ := own12_len R3.2.2.2.2.2.2
      subst hv
      have HO := hide R3.2.2.2.2.2.2
      have hz3 : w.heap.size ≤ w3.heap.size := R3.1.size
      have HA := hide (fun v' w' o' g' => R3.add (x := (i : Int) + 1) (v' := v') (w2 := w') o' g')
      clear R3 q0 q1 q5 q6
      go_wp2_with (at_builtin; refine wpList_append_own_at _ rfl (.tmp 26) (.tmp 28) 48 rfl w.heap.size 3 i0 _ 1 8 Tryd.underlying48 hi0 hiz his hib rfl (by decide) (.slice vo out.length vc) out.length (ints12 out) rfl (HO.out.alloc _) ⟨w3.heap.size, 0, none⟩ 1 1 [.int .i64 ((i : Int) + 1)] rfl rfl one12_cell one12_one (by unfold maxLen; omega) (by omega) (by simp; omega) ?_; intro v5 w5 own5 grow5 _ at5; refine Hid.out ?_)
      obtain ⟨vo5, vc5, hv5⟩ := own12_len own5
      subst hv5
      obtain ⟨A1, A2, A3, A4⟩ := HA.out _ w5 own5 grow5
      have HA1 := hide A1
      have HA4 := hide (K3.trans A4)
      clear A1 A4 K3 HA own5 grow5 at5
      refine hide ?_
      go_wp2_with fail
      go_end0
      exact ⟨rfl, HA4.out, _, HA1.out⟩
end Go.Proofs.YthmeafnofckoiaaDoor
