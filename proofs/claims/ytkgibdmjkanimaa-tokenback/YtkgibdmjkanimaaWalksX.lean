/- What the statement TokenStands returns, for every text: true. -/
import Derived.Test.YtkgibdmjkanimaaWalksW
import Derived.Deep.QuietTactic
import Derived.BigQuiet
namespace Go.Proofs.Ytkgibdmjkanimaa
open Go.RowKit

set_option maxHeartbeats 400000 in
theorem stands_long (s : ByteArray) (w : World) (hs : s.size ≤ maxLen) (hl : 2000 < s.size) :
    Calls Try.prog 6 #[.string s] w fun e w' => e = .returned (.bool true) ∧ Below w.heap.size w w' := by
  unfold maxLen at hs
  go_enter Try.func6, Try.ntmps6
  go_wp2_with fail
  refine (works_any _).mono ?_
  rintro e w1 ⟨rfl, b1⟩
  go_wp2_with fail
  go_ret
  exact ⟨rfl, b1⟩

set_option maxHeartbeats 400000 in
theorem stands_no (s : ByteArray) (w : World) (hl : ¬ 2000 < s.size) {x : Nat} (h : words s = .inl x) :
    Calls Try.prog 6 #[.string s] w fun e w' => e = .returned (.bool true) ∧ Below w.heap.size w w' := by
  have hx := words_err h
  go_enter Try.func6, Try.ntmps6
  go_wp2_with fail
  refine (split_no s _ (by omega) h).mono ?_
  rintro e w1 ⟨rfl, b1⟩
  go_wp2_with fail
  refine (works_any _).mono ?_
  rintro e w2 ⟨rfl, b2⟩
  go_wp2_with fail
  go_ret
  exact ⟨rfl, below_two (below_new b1 _) b2⟩

theorem below_drew {B : Nat} {a w : World} (h : Below B a w) (n : Nat) : Below B a (w.drewN n) := ⟨h.1, h.2, h.3, h.4, h.5⟩
theorem tok_at (s : ByteArray) (ws : List (Nat × Nat)) (k : Nat) (h : k < ws.length) : (ws.map (tok s)).getD k (⟨#[]⟩, 0) = (s.extract (ws.getD k (0, 0)).1 (ws.getD k (0, 0)).2, ((ws.getD k (0, 0)).1 : Int)) := by
  simp [h, tok]
theorem cut_size (s : ByteArray) (a e : Nat) (h1 : a < e) (h2 : e ≤ s.size) : a + (s.extract a e).size = e := by
  rw [ByteArray.size_extract]; omega

theorem slice_at (s : ByteArray) (a : Nat) (t : ByteArray) (w : World) (hx : s.extract a (a + t.size) = t) (h : a + t.size ≤ s.size) : (Instr.slice 9 (.string s) (some (.int .i64 (a : Int))) (some (.int .i64 ((a : Int) + (t.size : Int)))) none).run Try.prog w = .ok (.string t) w := by
  have e : ((a : Int) + (t.size : Int)).toNat = a + t.size := by omega
  rw [run_slice_string (P := Try.prog) w 9 s .i64 .i64 (a : Int) ((a : Int) + (t.size : Int)) Try.underlying9 (by omega) (by omega) (by omega), e, Int.toNat_natCast, hx]
set_option maxHeartbeats 1000000 in
theorem stands_ok (s : ByteArray) (w : World) (hl : ¬ 2000 < s.size) {ws : List (Nat × Nat)} (h : words s = .inr ws) :
    Calls Try.prog 6 #[.string s] w fun e w' => e = .returned (.bool true) ∧ Below w.heap.size w w' := by
  have hok := (words_ok h).1
  have hlen := (join_len s.data.toList ws 0 s.size hok).2
  have hml : (ws.map (tok s)).length = ws.length := List.length_map _
  go_enter Try.func6, Try.ntmps6
  go_wp2_with fail
  refine (split_ok s _ (by omega) h).mono ?_
  rintro e w1 ⟨ao, cap, rfl, hcap, hS, b1⟩
  rw [hml] at hcap ⊢
  have hS2 := hideS (hS.below ((Below.refl _ w1).alloc (Nat.le_refl _) (Obj.cells #[Value.int IntKind.i64 0, Value.int IntKind.i64 0] 26)))
  have HB := hideS (below_new b1 (Obj.cells #[Value.int IntKind.i64 0, Value.int IntKind.i64 0] 26))
  clear hS b1
  go_wp2_with fail
  go_loopw [5, 6] (fun en i wr => ∃ k : Nat, k ≤ ws.length ∧ i = .int .i64 k ∧ en = .int .i64 (endAt ws k) ∧ Hid (Below (w1.alloc (Obj.cells #[Value.int IntKind.i64 0, Value.int IntKind.i64 0] 26)).heap.size (w1.alloc (Obj.cells #[Value.int IntKind.i64 0, Value.int IntKind.i64 0] 26)) wr)) (fun _ i _ => ws.length - (intOf i).toNat)
  case atStart => exact ⟨0, Nat.zero_le _, rfl, rfl, hideS (Below.refl _ _)⟩
  case round =>
    obtain ⟨k, hk, rfl, rfl, HW⟩ := hrel
    by_cases hlt : k < ws.length
    · have hS3 := (unhideS hS2).below (unhideS HW)
      rcases hS3 with hS3 | ⟨b, o, rfl, hb, hc⟩
      · have := congrArg List.length hS3; rw [List.length_map, List.length_nil] at this; omega
      · obtain ⟨c1, c2⟩ := hc k (by omega)
        rw [tok_at s ws k hlt] at c1 c2
        obtain ⟨q1, q2, q3⟩ := okW_end hok hlt
        have hsz := cut_size s _ _ q2 q3
        have hen : endAt ws (k + 1) = (ws.getD k (0, 0)).2 := rfl
        rw [← hsz] at hen
        generalize endAt ws k = en at *
        generalize (ws.getD k (0, 0)).1 = a at *
        generalize (ws.getD k (0, 0)).2 = ee at *
        obtain ⟨t, ht⟩ : ∃ t, t = s.extract a ee := ⟨_, rfl⟩
        have hx : s.extract a (a + t.size) = t := by rw [ht, hsz]
        rw [← ht] at c1 hsz hen
        have HE := hideS hen
        have t1 : 0 < t.size := by omega
        have t2 : a + t.size ≤ s.size := by omega
        clear ht hen hc hsz q2 q3
        have hsl := fun w => slice_at s a t w hx t2
        clear hx
        have u1 : decide (a < en) = false := by simp; omega
        have x1 : IntKind.i64.wrap ((s.size : Int) - (t.size : Int)) = (s.size : Int) - (t.size : Int) := IntWalk.i64_in _ ⟨by omega, by omega⟩
        have x2 : IntKind.i64.wrap ((a : Int) + (t.size : Int)) = (a : Int) + (t.size : Int) := IntWalk.i64_in _ ⟨by omega, by omega⟩
        have u2 : ((t.size : Int) == 0) = false := by rw [beq_eq_false_iff_ne]; omega
        have u3 : decide ((s.size : Int) - (t.size : Int) < (a : Int)) = false := by simp; omega
        go_wp2_with fail
        go_quiet (fail)
        go_wp2_with fail
        go_roundw
        case rel => exact ⟨k + 1, by omega, by go_num, by rw [unhideS HE]; go_num, hideS (below_drew (unhideS HW) nq)⟩
        case measure => simp [intOf]; omega
    · go_wp2_with fail
      refine (works_any _).mono ?_
      rintro e w3 ⟨rfl, b3⟩
      go_wp2_with fail
      go_ret
      exact ⟨rfl, below_two (below_two (unhideS HB) (unhideS HW)) b3⟩
theorem stands_any (s : ByteArray) (w : World) (hs : s.size ≤ maxLen) :
    Calls Try.prog 6 #[.string s] w fun e w' => e = .returned (.bool true) ∧ Below w.heap.size w w' := by
  by_cases hl : 2000 < s.size
  · exact stands_long s w hs hl
  · cases h : words s with
    | inl x => exact stands_no s w hl h
    | inr ws => exact stands_ok s w hl h
end Go.Proofs.Ytkgibdmjkanimaa
