/- The reader takes a word: take, itself. -/
import Derived.Test.YtkkkgennkhdfhaaDoorRdA
namespace Go.Proofs.YtkkkgennkhdfhaaDoor
open Go Go.RowKit
open G (Tok Er Ins Fun peek0 peek1 atOf)

theorem Rdr.next {B a : Nat} {L : List Tok} {E : Int} {n : Nat} {l : List Tok} {w : World} (h : Rdr B a L E n l w) (hl : l ≠ []) :
    Rdr B a L E n l.tail (w.setCell ⟨a, 1, none⟩ (.int .i64 (((L.length - l.length : Nat) : Int) + 1))) := by
  obtain ⟨v, h1, h2, h3, h4, h5, h6, h7, h8⟩ := h
  have hsz : (w.setCell ⟨a, 1, none⟩ (.int .i64 (((L.length - l.length : Nat) : Int) + 1))).heap.size = w.heap.size := by simp [World.setCell]
  refine ⟨v, ?_, ?_, h3, h4, (List.tail_suffix l).trans h5, h6, h7, by rw [hsz]; exact h8⟩
  · rw [heap_setCell_same w a 1 _ 48 _ h1]
    have e : ((L.length - l.length : Nat) : Int) + 1 = ((L.length - l.tail.length : Nat) : Int) := by
      have := h5.length_le
      cases l with
      | nil => exact absurd rfl hl
      | cons t r => simp at *; omega
    rw [e]; rfl
  · refine ⟨h2.1, ?_⟩
    rcases h2.2 with hn | ⟨g, cap, cur, hv2, hbb, hg, rest⟩
    · exact .inl hn
    · refine .inr ⟨g, cap, cur, hv2, hbb, ?_, rest⟩
      rw [Below.heap_setCell _ _ _ _ ?_]
      · exact hg
      · intro e
        have e : g = a := e
        subst e
        rw [h1] at hg
        simp at hg
/-- The next word, which is read by that. -/
def Took (B a : Nat) (L : List Tok) (E : Int) (n : Nat) (l : List Tok) (w : World) (e : Ending) (w' : World) : Prop :=
  e = .returned (.agg #[.string (bs (peek0 l)), .int .i64 (atOf E l)]) ∧ Kp w.heap.size a w w' ∧ (l ≠ [] → Rdr B a L E n l.tail w')
theorem take_any {B a : Nat} {L : List Tok} {E : Int} {n : Nat} {l : List Tok} (w : World) (h : Rdr B a L E n l w) :
    Calls Tryd.prog 38 #[.pointer (some ⟨a, 0, none⟩)] w (Took B a L E n l w) := by
  have hb0 := below_box w (.cells #[.string ⟨#[]⟩, .int .i64 0] 53)
  have H0 := hide (h.step hb0)
  have P0 := hide (Pair.new w 53 (a := .string ⟨#[]⟩) (b := .int .i64 0))
  have HB := hide hb0
  have hl := h.suffix
  have hB := h.size
  have ha : a < w.heap.size := Nat.lt_of_lt_of_le hl.2.2.2 h.size
  clear hb0 h
  go_enter Tryd.func38, Tryd.ntmps38
  go_upto_region 1 with fail
  show Code.wp _ _ _ _ (w.alloc (.cells #[.string ⟨#[]⟩, .int .i64 0] 53))
  generalize w.alloc (.cells #[.string ⟨#[]⟩, .int .i64 0] 53) = W at *
  go_wp2_with fail
  refine (peek0_any _ H0.out).mono ?_; rintro e W1 ⟨rfl, b1⟩
  have H1 := hide ((H0.out.step b1).step (below_box W1 (.cells #[.string (bs (peek0 l)), .int .i64 (atOf E l)] 53)))
  have P1 := hide ((P0.out.below b1).below (below_box W1 (.cells #[.string (bs (peek0 l)), .int .i64 (atOf E l)] 53)))
  have P2 := hide (Pair.new W1 53 (a := .string (bs (peek0 l))) (b := .int .i64 (atOf E l)))
  have HB2 := hide ((below_step HB.out b1).alloc (Nat.le_trans HB.out.size b1.size) (.cells #[.string (bs (peek0 l)), .int .i64 (atOf E l)] 53))
  have hne : W1.heap.size ≠ a := by have := b1.size; have := HB.out.size; omega
  have hne2 : w.heap.size ≠ a := by omega
  have hne3 : w.heap.size ≠ W1.heap.size := by have := b1.size; have := P0.out.2.2.2.2; omega
  have hBw : B ≤ w.heap.size := hB
  clear hB b1 H0 P0 HB
  go_upto_region 2 with fail
  show Code.wp _ _ _ _ (W1.alloc (.cells #[.string (bs (peek0 l)), .int .i64 (atOf E l)] 53))
  generalize hW2 : W1.alloc (.cells #[.string (bs (peek0 l)), .int .i64 (atOf E l)] 53) = W2 at *
  generalize W1.heap.size = g at *
  clear hW2
  obtain ⟨_, v, c0, c1, c2, c3, f0, f1, f2, f3, hv⟩ := H1.out.cells
  clear hv c0 c2 c3 f0 f2 f3
  obtain ⟨p0, p1, p2, p3, p4⟩ := P1.out
  obtain ⟨q0, q1, q2, q3, q4⟩ := P2.out
  have HX := hide (fun hne : l ≠ [] => H1.out.next hne)
  have hj : L.length - l.length ≤ 131072 := by omega
  generalize L.length - l.length = j at *
  go_wp2_with fail
  refine bodyPost_ret (v := .agg #[.string (bs (peek0 l)), .int .i64 (atOf E l)]) (by simp [results, Tryd.results38, go_sem, p0, p1]) rfl ⟨rfl, ?_, fun hn => ?_⟩
  · exact (((Kp.of_belowW HB2.out (Nat.le_refl _)).setCell (.inl ⟨rfl, Nat.one_ne_zero⟩) H1.out.not80 _).setCell (.inr ⟨Nat.le_refl _, hne2⟩) (.inl (Nat.le_refl _)) _).setCell (.inr ⟨Nat.le_refl _, hne2⟩) (.inl (Nat.le_refl _)) _
  · refine (HX.out hn).keep (by simp [World.setCell]) fun k hk => ?_
    rw [Below.heap_setCell _ _ _ _ (by simp; omega), Below.heap_setCell _ _ _ _ (by simp; omega)]
end Go.Proofs.YtkkkgennkhdfhaaDoor
