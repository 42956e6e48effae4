/- The small functions of the reader: need, peek, take, itself. -/
import Derived.Test.YtkkkgennkhdfhaaDoorPre
import Derived.Deep.QuietTactic
import Derived.BigQuiet
import Derived.RegionTactic
import Derived.BigRegion
import Derived.Deep.Cut
namespace Go.Proofs.YtkkkgennkhdfhaaDoor
open Go Go.RowKit
open G (Tok Er Ins Fun peek0 peek1 atOf)

theorem need_ok (c : Int) (t : Value) (p : Int) (w : World) : Calls Tryd.prog 31 #[.bool true, .int .i64 c, .agg #[t, .int .i64 p]] w fun e w' => e = .returned (.tuple #[]) ∧ Below w.heap.size w w' := by
  go_enter Tryd.func31, Tryd.ntmps31
  go_wp2_with fail
  go_end0
  exact ⟨rfl, below_box _ _⟩
/-- What is thrown. -/
def thrown (c p : Int) : Ending := .panicked [{ v := .iface 28 (.agg #[.int .i64 c, .int .i64 p]), recovered := false }]
theorem bodyPost_thrown {P : Program} {fn : Func} {R : Ending → World → Prop} {t : Array Value} {w : World} {c p : Int} (hR : R (thrown c p) w) : bodyPost P fn R (.panic [{ v := .iface 28 (.agg #[.int .i64 c, .int .i64 p]), recovered := false }]) { tmps := t, defers := [] } w := ⟨rfl, hR⟩
theorem need_no (c : Int) (t : Value) (p : Int) (w : World) : Calls Tryd.prog 31 #[.bool false, .int .i64 c, .agg #[t, .int .i64 p]] w fun e w' => e = thrown c p ∧ Below w.heap.size w w' := by
  go_enter Tryd.func31, Tryd.ntmps31
  go_wp2_with fail
  exact bodyPost_thrown ⟨rfl, below_box w _⟩
/-- The word behind the next one. -/
def Saw1 (l : List Tok) (w : World) (e : Ending) (w' : World) : Prop := ∃ z : Int, e = .returned (.agg #[.string (bs (peek1 l)), .int .i64 z]) ∧ Below w.heap.size w w'
theorem need_any (b : Bool) (c : Int) (t : Value) (p : Int) (w : World) : Calls Tryd.prog 31 #[.bool b, .int .i64 c, .agg #[t, .int .i64 p]] w fun e w' => e = (if b then .returned (.tuple #[]) else thrown c p) ∧ Below w.heap.size w w' := by
  cases b
  · exact need_no c t p w
  · exact need_ok c t p w
theorem peek0_any {B a : Nat} {L : List Tok} {E : Int} {n : Nat} {l : List Tok} (w : World) (h : Rdr B a L E n l w) :
    Calls Tryd.prog 32 #[.pointer (some ⟨a, 0, none⟩), .int .i64 0] w fun e w' => e = .returned (.agg #[.string (bs (peek0 l)), .int .i64 (atOf E l)]) ∧ Below w.heap.size w w' := by
  have hsuf := h.suffix
  have hwd := Rdr.word hsuf.1 0
  obtain ⟨v, c0, c1, c2, c3, f0, f1, f2, f3, hv⟩ := (h.step (below_box w (.cells #[.string ⟨#[]⟩, .int .i64 0] 53))).cells.2
  obtain ⟨p0, p1, p2, p3, p4⟩ := Pair.new w 53 (a := .string ⟨#[]⟩) (b := .int .i64 0)
  have HB := hide (below_box w (.cells #[.string ⟨#[]⟩, .int .i64 0] 53))
  have hlen : L.length - l.length + l.length = L.length := Nat.sub_add_cancel hsuf.1.length_le
  have hL := hsuf.2.1
  clear h hsuf
  go_enter Tryd.func32, Tryd.ntmps32
  go_upto_region 1 with fail
  show Code.wp _ _ _ _ (w.alloc (.cells #[.string ⟨#[]⟩, .int .i64 0] 53))
  generalize w.alloc (.cells #[.string ⟨#[]⟩, .int .i64 0] 53) = W at *
  generalize L.length - l.length = j at *
  cases hl : l[0]? with
  | none =>
    have hll : l.length ≤ 0 := List.getElem?_eq_none_iff.1 hl
    have HP : Hid (bs (peek0 l) = ⟨#[]⟩ ∧ atOf E l = E) := hide (by
      match l, hll with
      | [], _ => exact ⟨rfl, rfl⟩)
    clear hl hwd
    rcases hv with ⟨rfl, rfl⟩ | ⟨g, cap, rfl, hc1, hc2, hcell, hfz⟩
    · have hj : j = 0 := by simp only [List.length_nil] at hlen; omega
      subst hj
      clear hlen
      go_wp2_with fail
      refine bodyPost_ret (v := .agg #[.string ⟨#[]⟩, .int .i64 E]) (by simp [results, Tryd.results32, go_sem, p0, p1]) rfl ⟨?_, (HB.out.setCell (Nat.le_refl _) _).setCell (Nat.le_refl _) _⟩
      rw [HP.out.1, HP.out.2]
    · have hj : ¬ ((j : Int) < L.length) := by omega
      clear hcell hfz
      go_wp2_with fail
      refine bodyPost_ret (v := .agg #[.string ⟨#[]⟩, .int .i64 E]) (by simp [results, Tryd.results32, go_sem, p0, p1]) rfl ⟨?_, (HB.out.setCell (Nat.le_refl _) _).setCell (Nat.le_refl _) _⟩
      rw [HP.out.1, HP.out.2]
  | some t =>
    rw [hl] at hwd
    rw [Nat.add_zero] at hwd
    have HP : Hid (bs (peek0 l) = bs t.1 ∧ atOf E l = t.2) := hide (by
      match l, hl with
      | x :: r, hl => simp at hl; subst hl; exact ⟨rfl, rfl⟩)
    have hlt : 0 < l.length := (List.getElem?_eq_some_iff.1 hl).1
    rcases hv with ⟨rfl, rfl⟩ | ⟨g, cap, rfl, hc1, hc2, hcell, hfz⟩
    · simp only [List.length_nil] at hlen; omega
    · have hj : (j : Int) < L.length := by omega
      have hj2 : j < cap := by omega
      obtain ⟨k0, k1⟩ := hcell _ _ hwd
      clear hcell hl hwd hfz
      unfold maxLen at hc2
      go_wp2_with fail
      refine bodyPost_ret (v := .agg #[.string (bs t.1), .int .i64 t.2]) (by simp [results, Tryd.results32, go_sem, p0, p1]) rfl ⟨?_, (HB.out.setCell (Nat.le_refl _) _).setCell (Nat.le_refl _) _⟩
      rw [HP.out.1, HP.out.2]
theorem peek1_any {B a : Nat} {L : List Tok} {E : Int} {n : Nat} {l : List Tok} (w : World) (h : Rdr B a L E n l w) :
    Calls Tryd.prog 32 #[.pointer (some ⟨a, 0, none⟩), .int .i64 1] w (Saw1 l w) := by
  have hsuf := h.suffix
  have hwd := Rdr.word hsuf.1 1
  obtain ⟨v, c0, c1, c2, c3, f0, f1, f2, f3, hv⟩ := (h.step (below_box w (.cells #[.string ⟨#[]⟩, .int .i64 0] 53))).cells.2
  obtain ⟨p0, p1, p2, p3, p4⟩ := Pair.new w 53 (a := .string ⟨#[]⟩) (b := .int .i64 0)
  have HB := hide (below_box w (.cells #[.string ⟨#[]⟩, .int .i64 0] 53))
  have hlen : L.length - l.length + l.length = L.length := Nat.sub_add_cancel hsuf.1.length_le
  have hL := hsuf.2.1
  clear h hsuf
  go_enter Tryd.func32, Tryd.ntmps32
  go_upto_region 1 with fail
  show Code.wp _ _ _ _ (w.alloc (.cells #[.string ⟨#[]⟩, .int .i64 0] 53))
  generalize w.alloc (.cells #[.string ⟨#[]⟩, .int .i64 0] 53) = W at *
  generalize L.length - l.length = j at *
  cases hl : l[1]? with
  | none =>
    have hll : l.length ≤ 1 := List.getElem?_eq_none_iff.1 hl
    have HP : Hid (bs (peek1 l) = ⟨#[]⟩) := hide (by
      match l, hll with
      | [], _ => rfl
      | [_], _ => rfl)
    clear hl hwd
    rcases hv with ⟨rfl, rfl⟩ | ⟨g, cap, rfl, hc1, hc2, hcell, hfz⟩
    · have hj : j = 0 := by simp only [List.length_nil] at hlen; omega
      subst hj
      clear hlen
      go_wp2_with fail
      refine bodyPost_ret (v := .agg #[.string ⟨#[]⟩, .int .i64 E]) (by simp [results, Tryd.results32, go_sem, p0, p1]) rfl ⟨E, ?_, (HB.out.setCell (Nat.le_refl _) _).setCell (Nat.le_refl _) _⟩
      rw [HP.out]
    · have hj : ¬ ((j : Int) + 1 < L.length) := by omega
      clear hcell hfz
      go_wp2_with fail
      refine bodyPost_ret (v := .agg #[.string ⟨#[]⟩, .int .i64 E]) (by simp [results, Tryd.results32, go_sem, p0, p1]) rfl ⟨E, ?_, (HB.out.setCell (Nat.le_refl _) _).setCell (Nat.le_refl _) _⟩
      rw [HP.out]
  | some t =>
    rw [hl] at hwd
    have HP : Hid (bs (peek1 l) = bs t.1) := hide (by
      match l, hl with
      | x :: y :: r, hl => simp at hl; subst hl; rfl)
    have hlt : 1 < l.length := (List.getElem?_eq_some_iff.1 hl).1
    rcases hv with ⟨rfl, rfl⟩ | ⟨g, cap, rfl, hc1, hc2, hcell, hfz⟩
    · simp only [List.length_nil] at hlen; omega
    · have hj : (j : Int) + 1 < L.length := by omega
      have hj2 : j + 1 < cap := by omega
      obtain ⟨k0, k1⟩ := hcell _ _ hwd
      clear hcell hl hwd hfz
      unfold maxLen at hc2
      go_wp2_with fail
      refine bodyPost_ret (v := .agg #[.string (bs t.1), .int .i64 t.2]) (by simp [results, Tryd.results32, go_sem, p0, p1]) rfl ⟨t.2, ?_, (HB.out.setCell (Nat.le_refl _) _).setCell (Nat.le_refl _) _⟩
      rw [HP.out]
end Go.Proofs.YtkkkgennkhdfhaaDoor
