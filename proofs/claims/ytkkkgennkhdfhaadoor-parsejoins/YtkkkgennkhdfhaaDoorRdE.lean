/- A label is read into an instruction; a value and a label, whatever the word is. -/
import Derived.Test.YtkkkgennkhdfhaaDoorRdD
namespace Go.Proofs.YtkkkgennkhdfhaaDoor
open Go Go.RowKit
open G (Tok Er Ins Fun peek0 peek1 atOf)

theorem labelOf_some {s : List UInt8} {p k : Int} {w : World} (hs : s.length ≤ 65536) (h : G.mark idxF 98 255 s = some k) : Calls Tryd.prog 44 #[.agg #[.string (bs s), .int .i64 p]] w fun e w' => e = .returned (.int .i64 k) ∧ Below w.heap.size w w' :=
  (labelOf_any s p w hs).mono fun e w' ⟨hb, hh⟩ => by
    rcases hh with ⟨x, hx, rfl⟩ | ⟨hx, _⟩
    · rw [h] at hx; cases hx; exact ⟨rfl, hb⟩
    · rw [h] at hx; cases hx
theorem labelOf_none {s : List UInt8} {p : Int} {w : World} (hs : s.length ≤ 65536) (h : G.mark idxF 98 255 s = none) : Calls Tryd.prog 44 #[.agg #[.string (bs s), .int .i64 p]] w fun e w' => e = thrown 7 p ∧ Below w.heap.size w w' :=
  (labelOf_any s p w hs).mono fun e w' ⟨hb, hh⟩ => by
    rcases hh with ⟨x, hx, _⟩ | ⟨_, rfl⟩
    · rw [h] at hx; cases hx
    · exact ⟨rfl, hb⟩
set_option maxRecDepth 20000 in
theorem label_none {B a c : Nat} {L : List Tok} {E : Int} {n : Nat} {l : List Tok} {x : Ins} (w : World) (h : Rdr B a L E n l w) (hi : InsAt B c x w) (hk : G.mark idxF 98 255 (peek0 l) = none) :
    Calls Tryd.prog 58 #[.pointer (some ⟨a, 0, none⟩), .pointer (some ⟨c, 0, none⟩)] w fun e w' => e = thrown 7 (atOf E l) ∧ Kp B a w w' := by
  obtain ⟨va, vt, h1, h2, h3, h4, h5⟩ := hi
  have c4 : w.cell? ⟨c, 5, none⟩ = some vt := by simp [World.cell?, h1, insCells]
  have z4 : w.frozen? ⟨c, 5, none⟩ = false := by simp [World.frozen?, h1]
  have hsh := h.short
  have H := hide h
  have hcl : c < w.heap.size := (Array.getElem?_eq_some_iff.1 h1).1
  have ha := h.suffix.2.2.2
  have hac : c ≠ a := by omega
  have hBw := h.size
  clear h h1 h2
  go_enter Tryd.func58, Tryd.ntmps58
  go_wp2_with fail
  go_region_with ((first
      | (go_at_call 38; refine (take_any _ H.out.drew).mono ?_; rintro e w1 ⟨rfl, k1, r1⟩; have s1 : w.heap.size ≤ w1.heap.size := k1.size; have hcl1 : c < w1.heap.size := Nat.lt_of_lt_of_le hcl s1; obtain ⟨c41, z41⟩ := Cel.kp k1 hcl hac c4 z4)
      | (go_at_call 44; refine (labelOf_none hsh hk).mono ?_; rintro e w2 ⟨rfl, b2⟩; go_loud (refine step_done (P := Tryd.prog) (by exact bodyPost_thrown ⟨rfl, (k1.undrew.andBelow b2).mono hBw⟩) ?_))))
  all_goals trivial
set_option maxRecDepth 20000 in
theorem label_some {B a c : Nat} {L : List Tok} {E : Int} {n : Nat} {l : List Tok} {x : Ins} {k : Int} (w : World) (h : Rdr B a L E n l w) (hi : InsAt B c x w) (hk : G.mark idxF 98 255 (peek0 l) = some k) (hlen : x.2.2.2.2.2.1.length ≤ 131072) :
    Calls Tryd.prog 58 #[.pointer (some ⟨a, 0, none⟩), .pointer (some ⟨c, 0, none⟩)] w fun e w' => e = .returned (.tuple #[]) ∧ Kp B a w w' ∧ Rdr B a L E n l.tail w' ∧ InsAt B c (addTo x k) w' := by
  obtain ⟨i0, hi0, hz0, hz1, hz2⟩ := info_parts Tryd.info3
  have hI := hide hi
  obtain ⟨va, vt, h1, h2, h3, h4, h5⟩ := hi
  have c4 : w.cell? ⟨c, 5, none⟩ = some vt := by simp [World.cell?, h1, insCells]
  have z4 : w.frozen? ⟨c, 5, none⟩ = false := by simp [World.frozen?, h1]
  have hsh := h.short
  have H := hide h
  have hcl : c < w.heap.size := (Array.getElem?_eq_some_iff.1 h1).1
  have ha := h.suffix.2.2.2
  have hac : c ≠ a := by omega
  have hBw := h.size
  have hva : ∀ g, vt.ownBlock = some g → g < w.heap.size ∧ g ≠ a := fun g hg => by have := h3.lt g hg; omega
  have hl : l ≠ [] := fun e => by subst e; cases hk
  have hva2 : vt.ownBlock ≠ some c := own_ne h3 h1 (by decide)
  clear h h1 h2
  go_enter Tryd.func58, Tryd.ntmps58
  go_wp2_with fail
  go_region_law ((first
      | (refine step_append_lies _ (by rfl) _ _ _ (by rfl) B 3 i0 _ 1 8 Tryd.underlying31 hi0 hz0 hz1 hz2 rfl (by omega) vt x.2.2.2.2.2.1.length (ints x.2.2.2.2.2.1) (by rfl) (((k1.undrew.own h3 hva).kept (L2.below_grown b2) (by cases vt.ownBlock <;> simp)).alloc _)
          ⟨w2.heap.size, 0, none⟩ 1 1 [.int .i64 k] (by rfl) (by rfl) one_cell one_one (by omega) (by unfold maxLen; omega) (by omega) (by simp; omega) (w2.heap.size + 1) (by simp) ?_; intro gg cap w3 hown hgrow hat hlt; obtain ⟨c43, z43⟩ := Cel.grown hgrow (by simp; omega) hva2 c4a z4a)
      | (go_simp; go_at_call 38; refine (take_any _ H.out.drew).mono ?_; rintro e w1 ⟨rfl, k1, r1⟩; have s1 : w.heap.size ≤ w1.heap.size := k1.size; have hcl1 : c < w1.heap.size := Nat.lt_of_lt_of_le hcl s1; obtain ⟨c41, z41⟩ := Cel.kp k1 hcl hac c4 z4)
      | (go_simp; go_at_call 44; refine (labelOf_some hsh hk).mono ?_; rintro e w2 ⟨rfl, b2⟩; have s2 : w1.heap.size ≤ w2.heap.size := b2.size; obtain ⟨c42, z42⟩ := Cel.below b2 hcl1 c41 z41; obtain ⟨c4a, z4a⟩ := Cel.below (below_box w2 (.cells #[.int .i64 k] 3)) (by omega) c42 z42)))
  all_goals
    refine bodyPost_end0' rfl rfl ⟨rfl, ?_, ?_, ?_⟩
    · exact ((((k1.undrew.andBelow b2).mono hBw).alloc (by omega) _).grown hgrow (by simp; omega) (fun q hq => ⟨(h3.lt q hq).1, (hva q hq).2⟩) (own_not80 (((k1.undrew.own h3 hva).kept (L2.below_grown b2) (by cases vt.ownBlock <;> simp)).alloc _) (by decide))).setCell (.inr ⟨h5, hac⟩) ((((hI.out.kp k1.undrew ha).step b2).step (below_box w2 _)).far80 hgrow hva2) _
    · exact ((((r1 hl).step b2).step (below_box w2 _)).grown hgrow (fun q hq => (h3.lt q hq).1)).set h5 _
    · exact (((hI.out.kp k1.undrew ha).step b2).step (below_box w2 _)).to c4a hown hgrow (by simpa using hat)
theorem value_ok {E : Int} {l : List Tok} {k : Int} (h : G.mark idxF 37 1048576 (peek0 l) = some k) : G.value idxF E l = .ok (k, l.tail) := by
  unfold G.value G.index G.one; rw [h]
theorem value_bad {E : Int} {l : List Tok} (h : G.mark idxF 37 1048576 (peek0 l) = none) : G.value idxF E l = .error (8, atOf E l) := by
  unfold G.value G.index G.one; rw [h]
theorem label_ok {E : Int} {l : List Tok} {k : Int} (h : G.mark idxF 98 255 (peek0 l) = some k) : G.label idxF E l = .ok (k, l.tail) := by
  unfold G.label G.index G.one; rw [h]
theorem label_bad {E : Int} {l : List Tok} (h : G.mark idxF 98 255 (peek0 l) = none) : G.label idxF E l = .error (7, atOf E l) := by
  unfold G.label G.index G.one; rw [h]
theorem value_step {B a c : Nat} {L : List Tok} {E : Int} {n : Nat} {l : List Tok} {x : Ins} (w : World) (h : Rdr B a L E n l w) (hi : InsAt B c x w) (hlen : x.2.2.2.2.1.length ≤ 131072) :
    Calls Tryd.prog 57 #[.pointer (some ⟨a, 0, none⟩), .pointer (some ⟨c, 0, none⟩)] w (Step B a c L E n (byWord x addArg (G.value idxF E l)) w) := by
  cases hk : G.mark idxF 37 1048576 (peek0 l) with
  | none => exact (value_none w h hi hk).mono fun e w' ⟨h1, h2⟩ => ⟨h2, .inr ⟨_, by rw [value_bad hk]; rfl, h1⟩⟩
  | some k => exact (value_some w h hi hk hlen).mono fun e w' ⟨h1, h2, h3, h4⟩ => ⟨h2, .inl ⟨_, _, by rw [value_ok hk]; rfl, h1, h3, h4⟩⟩
theorem label_step {B a c : Nat} {L : List Tok} {E : Int} {n : Nat} {l : List Tok} {x : Ins} (w : World) (h : Rdr B a L E n l w) (hi : InsAt B c x w) (hlen : x.2.2.2.2.2.1.length ≤ 131072) :
    Calls Tryd.prog 58 #[.pointer (some ⟨a, 0, none⟩), .pointer (some ⟨c, 0, none⟩)] w (Step B a c L E n (byWord x addTo (G.label idxF E l)) w) := by
  cases hk : G.mark idxF 98 255 (peek0 l) with
  | none => exact (label_none w h hi hk).mono fun e w' ⟨h1, h2⟩ => ⟨h2, .inr ⟨_, by rw [label_bad hk]; rfl, h1⟩⟩
  | some k => exact (label_some w h hi hk hlen).mono fun e w' ⟨h1, h2, h3, h4⟩ => ⟨h2, .inl ⟨_, _, by rw [label_ok hk]; rfl, h1, h3, h4⟩⟩
end Go.Proofs.YtkkkgennkhdfhaaDoor
