/- An instruction is read: behind its value. -/
import Derived.Test.YtkkkgennkhdfhaaDoorRdL
namespace Go.Proofs.YtkkkgennkhdfhaaDoor
open Go Go.RowKit
open G (Tok Er Ins Fun peek0 peek1 atOf)

/-- What the reading of an instruction answers. -/
def OutI (B a : Nat) (L : List Tok) (E : Int) (n : Nat) (r : Except Er (Ins × List Tok)) (w : World) (e : Ending) (w' : World) : Prop :=
  Kp w.heap.size a w w' ∧ ((∃ x l' v, r = .ok (x, l') ∧ e = .returned v ∧ InsVal w.heap.size x v w' ∧ Rdr B a L E n l' w') ∨ ∃ er : Er, r = .error er ∧ e = thrown er.1 er.2)
set_option maxHeartbeats 2000000 in
set_option maxRecDepth 20000 in
theorem instr_no {B a : Nat} {L : List Tok} {E : Int} {n : Nat} {l : List Tok} (w : World) (h : Rdr B a L E n l w) (ht : Tabs w) (h2 : 2 ≤ a) (hn : ¬ peek1 l = [61]) :
    Calls Tryd.prog 45 #[.pointer (some ⟨a, 0, none⟩)] w (OutI B a L E n (instrP E l) w) := by
  have hfd : ∀ (t a : Value) (w : World), Sem.run Tryd.prog (Instr.field 53 (.agg #[t, a]) 0) w = .ok t w := field_tok
  have hfd1 : ∀ (t a : Value) (w : World), Sem.run Tryd.prog (Instr.field 53 (.agg #[t, a]) 1) w = .ok a w := fun _ _ _ => rfl
  have hsm := h.suffix
  have hBw := h.size
  have hb0 := below_box w (.cells #[.int .i64 0, .int .i64 0, .int .i64 0, .int .i64 0, .slice none 0 0, .slice none 0 0, .string ⟨#[]⟩, .int .i64 0] 38)
  have H0 := hide (((h.mono hBw (Nat.le_refl _)).step hb0).mono (Nat.le_succ _) (by simp))
  have T0 := hide (ht.below hb0)
  have HB0 := hide hb0
  have S0 : Hid ((w.alloc (.cells #[.int .i64 0, .int .i64 0, .int .i64 0, .int .i64 0, .slice none 0 0, .slice none 0 0, .string ⟨#[]⟩, .int .i64 0] 38)).heap[w.heap.size]? = some (.cells #[.int .i64 0, .int .i64 0, .int .i64 0, .int .i64 0, .slice none 0 0, .slice none 0 0, .string ⟨#[]⟩, .int .i64 0] 38 (0, 0))) := hide (heap_alloc_new w _)
  have HN : ((bs (peek1 l)).toList == [61]) = false := (is_text (peek1 l) [61]).trans (decide_eq_false hn)
  have HP : Hid (instrP E l = instrQ E (atOf E l) (-1) l) := hide (by unfold instrP; rw [ident_no hn]; rfl)
  have HR0 := hide h
  clear h ht hb0 hn
  go_enter Tryd.func45, Tryd.ntmps45
  go_upto_region 1 with fail
  show Code.wp _ _ _ _ (w.alloc (.cells #[.int .i64 0, .int .i64 0, .int .i64 0, .int .i64 0, .slice none 0 0, .slice none 0 0, .string ⟨#[]⟩, .int .i64 0] 38))
  generalize w.alloc (.cells #[.int .i64 0, .int .i64 0, .int .i64 0, .int .i64 0, .slice none 0 0, .slice none 0 0, .string ⟨#[]⟩, .int .i64 0] 38) = W0 at *
  go_wp2_with fail
  refine (peek0_any _ H0.out).mono ?_; rintro e w1 ⟨rfl, b1⟩
  have hz1 : w.heap.size + 1 ≤ w1.heap.size := Nat.le_trans H0.out.size b1.size
  have M0 : Hid (Mid w a w1.heap.size L E n (0, -1, 0, 0, [], [], [], atOf E l) l (w1.alloc (.cells #[.int .i64 0, .int .i64 (-1), .int .i64 0, .int .i64 0, .slice none 0 0, .slice none 0 0, .string ⟨#[]⟩, .int .i64 (atOf E l)] 38))) :=
    hide ⟨(H0.out.step b1).step (below_box w1 _), InsAt.new hz1 _, ((below_step b1 (below_box w1 _)).block _ (Array.getElem?_eq_some_iff.1 S0.out).1).trans S0.out, Kp.of_belowW (below_step HB0.out (below_step b1 (below_box w1 _))) (Nat.le_refl _), T0.out.below (below_step b1 (below_box w1 _)), by have := hsm.1.length_le; simp [bulk]; omega, h2⟩
  clear H0 T0 HB0 S0 b1
  go_upto_region 2 with fail
  show Code.wp _ _ _ _ (w1.alloc (.cells #[.int .i64 0, .int .i64 (-1), .int .i64 0, .int .i64 0, .slice none 0 0, .slice none 0 0, .string ⟨#[]⟩, .int .i64 (atOf E l)] 38))
  generalize w1.alloc (.cells #[.int .i64 0, .int .i64 (-1), .int .i64 0, .int .i64 0, .slice none 0 0, .slice none 0 0, .string ⟨#[]⟩, .int .i64 (atOf E l)] 38) = W1 at *
  generalize w1.heap.size = c at *
  go_wp2_with fail
  refine (peek1_any _ M0.out.1).mono ?_; rintro e w1 ⟨z, rfl, b1⟩
  have M := hide (M0.out.step b1)
  clear M0 b1
  have hlt := M.out.lt
  generalize hp : atOf E l = p at *
  obtain ⟨id, hid⟩ : ∃ id : Int, id = -1 := ⟨_, rfl⟩
  obtain ⟨l1, hl1⟩ : ∃ l1 : List Tok, l1 = l := ⟨_, rfl⟩
  rw [← hl1, ← hid] at HP
  rw [← hl1, ← hid] at M
  obtain ⟨nb, hnb⟩ : ∃ nb : Bool, nb = false := ⟨_, rfl⟩
  have hbi : Hid (nb = decide (0 ≤ id)) := hide (by rw [hnb, hid]; decide)
  trace_state
  sorry
end Go.Proofs.YtkkkgennkhdfhaaDoor
