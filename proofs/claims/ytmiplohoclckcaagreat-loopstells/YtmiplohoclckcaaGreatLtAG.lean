/- More contracts of elder functions, carried over to this dump. More contracts of elder functions, carried over to this dump. Layer 7: the words of values and labels; the words of a list of numbers; the pen. Layer 7: strings.Join of a list of texts that the call's own program has made; what the pen tells. Layer 7: an instruction's words; the words of its operands are put. Layer 7: an instruction as a text, of one whose parts fit its operation. Layer 7: what Instr returns. Layer 7: programs in memory that are read, wherever their lists begin; functions and programs as texts. Layer 7: what Func returns. Layer 7: what Text returns. Layer 7: how great a program is; whether it is light. A program that was read stands in memory as the texts' functions take it. Layer 7: what is written word by word is read as what it was, whatever the words' own functions are. -/
import Derived.Test.YtmiplohoclckcaaGreatLtAA
import Derived.Test.YtmiplohoclckcaaGreatLtAB
import Derived.Test.YtmiplohoclckcaaGreatLtAC
import Derived.Test.YtmiplohoclckcaaGreatLtAE
import Derived.Test.YtmiplohoclckcaaGreatLtAF
import Derived.WalkKit
import Derived.Test.YtmiplohoclckcaaGreatProg
import Derived.WalkSpells
import Derived.WalkSmall
import Derived.WalkLawsBesides
import Derived.KernelRfl
import Derived.Below
import Derived.Deep.QuietTactic
import Derived.BigQuiet
import Derived.Lib.SmallJoins
import Derived.Deep.Cut
import Derived.Laws.AppendOwn
import Derived.OwnWalk
import Derived.Lib.OthersKept
import Derived.Laws.BitsLemmas
import Derived.Laws.BitsAllLaws
import Derived.RowKit
import Derived.RegionTactic
import Derived.BigRegion
import Derived.Laws.AppendOwnNone
import Derived.Deep.RegionHeld3
import Derived.Deep.AppendLies
import Derived.Laws.RangeAny
import Derived.Deep.RegionWith
namespace Go.Proofs.YtmiplohoclckcaaGreat.L5
open Go
open Go Go.RowKit
theorem refLetter_any (t : Int) (w : World) : Calls Tryz.prog 109 #[.int .i64 t] w fun e w' => e = .returned (.string (letter t)) ∧ w' = w := by
  by_cases h1 : t = 1
  · subst h1; go_enter Tryz.func109, Tryz.ntmps109; go_wp2; go_ret; exact ⟨rfl, rfl⟩
  by_cases h2 : t = 2
  · subst h2; go_enter Tryz.func109, Tryz.ntmps109; go_wp2; go_ret; exact ⟨rfl, rfl⟩
  by_cases h3 : t = 3
  · subst h3; go_enter Tryz.func109, Tryz.ntmps109; go_wp2; go_ret; exact ⟨rfl, rfl⟩
  have HL : Hid (letter t = ⟨#[110]⟩) := hide (by simp [letter, h1, h2, h3])
  go_enter Tryz.func109, Tryz.ntmps109
  go_wp2
  go_ret
  exact ⟨ret_str HL.out.symm, rfl⟩
theorem refMay_any (op t : Int) (w : World) : Calls Tryz.prog 97 #[.int .i64 op, .int .i64 t] w fun e w' => e = .returned (.bool (may op t)) ∧ w' = w := by
  by_cases h1 : op = 20
  · subst h1
    have HL : Hid (may 20 t = decide (t = 1 ∨ t = 2 ∨ t = 3)) := hide rfl
    go_enter Tryz.func97, Tryz.ntmps97
    go_wp2
    all_goals (go_ret; refine ⟨ret_bool ?_, rfl⟩; rw [HL.out, Bool.eq_iff_iff]; simp; try omega)
  by_cases h2 : op = 21
  · subst h2
    have HL : Hid (may 21 t = decide (t = 0 ∨ t = 1 ∨ t = 2)) := hide rfl
    go_enter Tryz.func97, Tryz.ntmps97
    go_wp2
    all_goals (go_ret; refine ⟨ret_bool ?_, rfl⟩; rw [HL.out, Bool.eq_iff_iff]; simp; try omega)
  by_cases h3 : op = 24
  · subst h3
    have HL : Hid (may 24 t = decide (t = 2 ∨ t = 3)) := hide rfl
    go_enter Tryz.func97, Tryz.ntmps97
    go_wp2
    all_goals (go_ret; refine ⟨ret_bool ?_, rfl⟩; rw [HL.out, Bool.eq_iff_iff]; simp; try omega)
  have HL : Hid (may op t = decide (t = 0)) := hide (by simp [may, h1, h2, h3])
  go_enter Tryz.func97, Tryz.ntmps97
  go_wp2
  all_goals (go_ret; refine ⟨ret_bool ?_, rfl⟩; rw [HL.out, Bool.eq_iff_iff]; simp; try omega)
/-- A block of numbers that was just made reads as its list. -/
theorem new_list (l : List Int) (w : World) (t : TypeId) : ∀ i, i < l.length → (w.alloc (.cells (l.map (Value.int .i64)).toArray t)).cell? ⟨w.heap.size, i, none⟩ = some (.int .i64 (nth l i)) := by
  intro i hi
  rw [Joins.cell_alloc_mark_at _ _ _ _ _ _ rfl]
  simp [nth, hi]
def wordsA : Array Value := ((List.range 30).map (fun k => Value.string (word k))).toArray
theorem new_words (w : World) (t : TypeId) (k : Nat) (hk : k < 30) : (w.alloc (.cells wordsA t)).cell? ⟨w.heap.size, k, none⟩ = some (.string (word k)) := by
  rw [Joins.cell_alloc_mark_at _ _ _ _ _ _ rfl]
  simp [wordsA, hk]
theorem refWord_in (k : Nat) (w : World) (h0 : 1 ≤ k) (h1 : k ≤ 29) : Calls Tryz.prog 108 #[.int .i64 k] w fun e w' => e = .returned (.string (word k)) ∧ Below w.heap.size w w' := by
  have hc := new_words w 9 k (by omega)
  have HB := hide (below_box w (.cells wordsA 9))
  go_enter Tryz.func108, Tryz.ntmps108
  go_upto_region 2 with fail
  show Code.wp _ _ _ _ (w.alloc (.cells wordsA 9))
  generalize w.alloc (.cells wordsA 9) = W at *
  go_wp2_with fail
  go_ret
  exact ⟨rfl, HB.out⟩
theorem refWord_out (op : Int) (w : World) (h : ¬ (1 ≤ op ∧ op ≤ 29)) : Calls Tryz.prog 108 #[.int .i64 op] w fun e w' => e = .returned (.string (word 0)) ∧ Below w.heap.size w w' := by
  have HB := hide (below_box w (.cells wordsA 9))
  by_cases h1 : op < 1
  all_goals
    go_enter Tryz.func108, Tryz.ntmps108
    go_upto_region 2 with fail
    show Code.wp _ _ _ _ (w.alloc (.cells wordsA 9))
    generalize w.alloc (.cells wordsA 9) = W at *
    go_wp2_with fail
    go_ret
    exact ⟨rfl, HB.out⟩
theorem refWord_any (op : Int) (w : World) : Calls Tryz.prog 108 #[.int .i64 op] w fun e w' => e = .returned (.string (word (num op))) ∧ Below w.heap.size w w' := by
  by_cases h : 1 ≤ op ∧ op ≤ 29
  · have e : op = (op.toNat : Int) := by omega
    have := refWord_in op.toNat w (by omega) (by omega)
    rw [← e] at this
    rwa [show num op = op.toNat from if_pos h]
  · rw [num_out h]; exact refWord_out op w h
theorem refWordI_any (op t : Int) (a b c d e f : Value) (w : World) : Calls Tryz.prog 98 #[.agg #[.int .i64 op, a, b, .int .i64 t, c, d, e, f]] w fun e w' => e = .returned (.string (iword op t)) ∧ Below w.heap.size w w' := by
  have HB := hide (Box.new w [.int .i64 op, a, b, .int .i64 t, c, d, e, f] 67)
  have Hb := hide (below_box w (.cells #[.int .i64 op, a, b, .int .i64 t, c, d, e, f] 67))
  cases h : beside (num op) 128
  · have HM := hide (iword_plain (t := t) h)
    replace h := hide h
    go_enter Tryz.func98, Tryz.ntmps98
    go_wp2_with fail
    refine (typed_any op _).mono ?_; rintro e w1 ⟨rfl, rfl⟩
    rw [h.out]
    go_wp2_with fail
    refine (refWord_any op _).mono ?_; rintro e w2 ⟨rfl, b2⟩
    go_wp2_with fail
    go_ret
    exact ⟨ret_str HM.out, below_step Hb.out b2⟩
  · have HM := hide (iword_typed (t := t) h)
    replace h := hide h
    go_enter Tryz.func98, Tryz.ntmps98
    go_wp2_with fail
    refine (typed_any op _).mono ?_; rintro e w1 ⟨rfl, rfl⟩
    rw [h.out]
    have hz := word_size op
    have hl := letter_size t
    have c0 := fun x => (grew_box HB.out x).2 0 _ rfl
    have c3 := fun x => (grew_box HB.out x).2 3 _ rfl
    go_wp2_with fail
    refine region_grew (by kernel_rfl) (by kernel_rfl) ?_
    repeat (go_big_quiet_step ((first
      | (go_at_call 108; exact calls_grew (refWord_any op _))
      | (go_at_call 109; exact calls_grew_same (refLetter_any t _)))))
    refine wpQuiet_nil ?_
    rintro _ ⟨x, rfl⟩
    go_wp2_with fail
    go_ret
    exact ⟨ret_str HM.out, below_step Hb.out (grewTo_below _ x)⟩
theorem lists_new {k : Nat} (l : List Int) (hl : takes k = l) (w : World) (n cap : Nat) (hn : l.length = n) (C : Array Value) (hC : (l.map (Value.int .i64)).toArray = C) :
    Lists (takes k) w (.returned (.slice (some ⟨w.heap.size, 0, none⟩) n cap)) (w.alloc (.cells C 3)) := by
  subst hn hC
  rw [hl]
  exact ⟨_, _, rfl, .inr ⟨_, rfl, by simp, new_list l w 3⟩, below_box _ _⟩
theorem lists_at {op : Int} (k : Int) (l : List Int) (h : (op == k) = true) (hl : takes (num k) = l) (w : World) (n cap : Nat) (hn : l.length = n) (C : Array Value) (hC : (l.map (Value.int .i64)).toArray = C) :
    Lists (takes (num op)) w (.returned (.slice (some ⟨w.heap.size, 0, none⟩) n cap)) (w.alloc (.cells C 3)) := by
  have : op = k := by simpa using h
  subst this
  exact lists_new l hl w n cap hn C hC
theorem takes_two {op : Int} (h1 : 2 ≤ op) (h2 : op ≤ 7) : takes (num op) = [1, 1] := by
  have hk : ∀ k, k ≤ 7 → 2 ≤ k → takes k = [1, 1] := by decide +kernel
  rw [show num op = op.toNat from if_pos (by omega)]
  exact hk _ (by omega) (by omega)
theorem takes_none {op : Int} (h : ¬ (2 ≤ op ∧ op ≤ 7)) (h2 : [9, 14, 11, 12, 15, 25, 13, 16, 17, 18, 19, 22, 27].contains op = false) : takes (num op) = [] := by
  by_cases ho : 1 ≤ op ∧ op ≤ 29
  · have e : op = ((op.toNat : Nat) : Int) := by omega
    have hk : ∀ k, k ≤ 29 → ¬ (2 ≤ k ∧ k ≤ 7) → [9, 14, 11, 12, 15, 25, 13, 16, 17, 18, 19, 22, 27].contains ((k : Nat) : Int) = false → takes k = [] := by decide +kernel
    rw [show num op = op.toNat from if_pos ho]
    exact hk op.toNat (by omega) (by omega) (by rw [← e]; exact h2)
  · rw [num_out ho]; rfl
theorem lists_none {op : Int} (h : ¬ (2 ≤ op ∧ op ≤ 7)) (h9 : (op == 9) = false) (h14 : (op == 14) = false) (h11 : (op == 11) = false) (h12 : (op == 12) = false) (h15 : (op == 15) = false) (h25 : (op == 25) = false) (h13 : (op == 13) = false) (h16 : (op == 16) = false) (h17 : (op == 17) = false) (h18 : (op == 18) = false) (h19 : (op == 19) = false) (h22 : (op == 22) = false) (h27 : (op == 27) = false) (w : World) :
    Lists (takes (num op)) w (.returned (.slice none 0 0)) w := by
  rw [takes_none h (by simp only [List.contains_cons, List.contains_nil, h9, h14, h11, h12, h15, h25, h13, h16, h17, h18, h19, h22, h27]; rfl)]
  exact ⟨none, 0, rfl, .inl rfl, Below.refl _ _⟩
theorem refTakes_two (op : Int) (w : World) (h1 : 2 ≤ op) (h2 : op ≤ 7) : Calls Tryz.prog 114 #[.int .i64 op] w (Lists (takes (num op)) w) := by
  have HL := hide (takes_two h1 h2)
  go_enter Tryz.func114, Tryz.ntmps114
  go_wp2_with fail
  go_ret
  exact lists_new [1, 1] HL.out w _ _ rfl _ rfl
theorem refTakes_else (op : Int) (w : World) (h : ¬ (2 ≤ op ∧ op ≤ 7)) : Calls Tryz.prog 114 #[.int .i64 op] w (Lists (takes (num op)) w) := by
  have HH := hide h
  by_cases hx : 2 ≤ op
  all_goals
    go_enter Tryz.func114, Tryz.ntmps114
    go_wp2_with fail
    all_goals go_ret
    all_goals first
      | exact lists_at 9 [2, 2] (by assumption) rfl w _ _ rfl _ rfl
      | exact lists_at 14 [2, 2] (by assumption) rfl w _ _ rfl _ rfl
      | exact lists_at 11 [2] (by assumption) rfl w _ _ rfl _ rfl
      | exact lists_at 12 [2] (by assumption) rfl w _ _ rfl _ rfl
      | exact lists_at 15 [2] (by assumption) rfl w _ _ rfl _ rfl
      | exact lists_at 25 [2] (by assumption) rfl w _ _ rfl _ rfl
      | exact lists_at 13 [2, 1] (by assumption) rfl w _ _ rfl _ rfl
      | exact lists_at 16 [3] (by assumption) rfl w _ _ rfl _ rfl
      | exact lists_at 17 [3] (by assumption) rfl w _ _ rfl _ rfl
      | exact lists_at 18 [3, 1] (by assumption) rfl w _ _ rfl _ rfl
      | exact lists_at 19 [3, 2] (by assumption) rfl w _ _ rfl _ rfl
      | exact lists_at 22 [1] (by assumption) rfl w _ _ rfl _ rfl
      | exact lists_at 27 [1] (by assumption) rfl w _ _ rfl _ rfl
      | exact lists_none HH.out (by assumption) (by assumption) (by assumption) (by assumption) (by assumption) (by assumption) (by assumption) (by assumption) (by assumption) (by assumption) (by assumption) (by assumption) (by assumption) w
theorem refTakes_any (op : Int) (w : World) : Calls Tryz.prog 114 #[.int .i64 op] w (Lists (takes (num op)) w) := by
  by_cases h : 2 ≤ op ∧ op ≤ 7
  · exact refTakes_two op w h.1 h.2
  · exact refTakes_else op w h
theorem size_len (s : ByteArray) : s.data.toList.length = s.size := by simp
theorem empty_true (s : ByteArray) (h : s.size = 0) : s.toList.isEmpty = true := by
  have : s.data.toList = [] := List.length_eq_zero_iff.1 (by rw [size_len]; exact h)
  rw [ByteArray.toList_eq, this]; rfl
theorem empty_false (s : ByteArray) (h : 0 < s.size) : s.toList.isEmpty = false := by
  rw [ByteArray.toList_eq]
  cases e : s.data.toList with
  | nil => have := size_len s; rw [e] at this; simp at this; omega
  | cons => rfl
set_option maxHeartbeats 400000 in
theorem refFind_full (s : ByteArray) (w : World) (hs : 0 < s.size) :
    Calls Tryz.prog 93 #[.string s] w fun e w' => e = .returned (.tuple #[.int .i64 (find s).1, .int .i64 (find s).2]) ∧ Below w.heap.size w w' := by
  have hz := empty_false s hs
  go_enter Tryz.func93, Tryz.ntmps93
  go_wp2_with fail
  go_loopw [4] (fun o wr => ∃ k : Nat, 1 ≤ k ∧ k ≤ 30 ∧ o = .int .i64 k ∧ Below w.heap.size w wr ∧ Hid (Rest s k 0)) (fun o _ => 30 - (intOf o).toNat)
  case atStart => exact ⟨1, by omega, by omega, rfl, Below.refl _ _, rest_start s⟩
  case round =>
    obtain ⟨k, hk1, hk2, rfl, hB, HR⟩ := hrel
    replace hB := hide hB
    by_cases hlt : k < 30
    · have hd : decide ((k : Int) ≤ 29) = true := by simp; omega
      go_wp2_with fail
      go_loopw [5] (fun o wr => ∃ j : Nat, j ≤ 4 ∧ o = .int .i64 j ∧ Below w.heap.size w wr ∧ Hid (Rest s k j)) (fun o _ => 4 - (intOf o).toNat)
      case atStart => exact ⟨0, by omega, rfl, hB.out, HR⟩
      case round =>
        obtain ⟨j, hj, rfl, hB2, HR2⟩ := hrel
        replace hB2 := hide hB2
        by_cases hjt : j < 4
        · cases hm : may (k : Int) (j : Int)
          · have HN := hide (rest_miss HR2.out hk1 (by omega) hjt (by rw [hm]; rfl))
            replace hm := hide hm
            go_wp2_with fail
            refine (refMay_any _ _ _).mono ?_; rintro e w1 ⟨rfl, rfl⟩
            rw [hm.out]
            go_wp2_with fail
            go_roundw
            case rel => exact ⟨j + 1, by omega, by go_num, hB2.out, HN⟩
            case measure => simp [intOf]; omega
          · cases he : (iword (k : Int) (j : Int)).toList == s.toList
            · have HN := hide (rest_miss HR2.out hk1 (by omega) hjt (by rw [hm, he]; rfl))
              replace hm := hide hm
              go_wp2_with fail
              refine (refMay_any _ _ _).mono ?_; rintro e w1 ⟨rfl, rfl⟩
              rw [hm.out]
              go_wp2_with fail
              refine (refWordI_any _ _ _ _ _ _ _ _ _).mono ?_; rintro e w2 ⟨rfl, b2⟩
              go_wp2_with fail
              go_roundw
              case rel => exact ⟨j + 1, by omega, by go_num, below_step hB2.out b2, HN⟩
              case measure => simp [intOf]; omega
            · have HN := hide (rest_hit HR2.out hk1 (by omega) hjt hm he)
              replace hm := hide hm
              go_wp2_with fail
              refine (refMay_any _ _ _).mono ?_; rintro e w1 ⟨rfl, rfl⟩
              rw [hm.out]
              go_wp2_with fail
              refine (refWordI_any _ _ _ _ _ _ _ _ _).mono ?_; rintro e w2 ⟨rfl, b2⟩
              go_wp2_with fail
              go_ret2
              exact ⟨ret_pair HN.out rfl rfl, below_step hB2.out b2⟩
        · have : j = 4 := by omega
          subst this
          go_wp2_with fail
          go_roundw
          case rel => exact ⟨k + 1, by omega, by omega, by go_num, hB2.out, hide (rest_line HR2.out hk1)⟩
          case measure => simp [intOf]; omega
    · go_wp2_with fail
      go_ret2
      exact ⟨ret_pair (rest_end HR.out (by omega)) rfl rfl, hB.out⟩
theorem refFind_any (s : ByteArray) (w : World) :
    Calls Tryz.prog 93 #[.string s] w fun e w' => e = .returned (.tuple #[.int .i64 (find s).1, .int .i64 (find s).2]) ∧ Below w.heap.size w w' := by
  by_cases h : 0 < s.size
  · exact refFind_full s w h
  · have hz := empty_true s (by omega)
    have HF := hide (find_empty (s := s) (by omega))
    go_enter Tryz.func93, Tryz.ntmps93
    go_wp2_with fail
    go_ret2
    exact ⟨ret_pair HF.out rfl rfl, Below.refl _ _⟩
end Go.Proofs.YtmiplohoclckcaaGreat.L5
namespace Go.Proofs.YtmiplohoclckcaaGreat.L3
open Go
open Go Go.RowKit
theorem pw_succ (k : Nat) : pw (k + 1) = pw k * 2 := by
  unfold pw; rw [Nat.pow_succ]; simp
theorem pw_pos (k : Nat) : 1 ≤ pw k := by
  have : 0 < 2 ^ k := Nat.two_pow_pos k
  unfold pw; omega
theorem pw_mono {i j : Nat} (h : i ≤ j) : pw i ≤ pw j := by
  have : 2 ^ i ≤ 2 ^ j := Nat.pow_le_pow_right (by decide) h
  unfold pw; omega
theorem pw_le {k : Nat} (h : k ≤ 16) : pw k ≤ 65536 := pw_mono (j := 16) h
theorem int_val {k : IntKind} {a b : Int} (h : a = b) : Value.int k a = .int k b := congrArg (Value.int k) h
theorem power_any (n : Nat) (w : World) (hn : n ≤ 16) :
    Calls Tryz.prog 111 #[.int .i64 n] w fun e w' => e = .returned (.int .i64 (pw n)) ∧ w' = w := by
  go_enter Tryz.func111, Tryz.ntmps111
  go_wp2
  go_loop [3, 4] (fun o i => ∃ k : Nat, k ≤ n ∧ i = .int .i64 k ∧ o = .int .i64 (pw k)) (fun _ i => n - (intOf i).toNat)
  case atStart => exact ⟨0, Nat.zero_le _, rfl, rfl⟩
  case round =>
    obtain ⟨k, hk, rfl, rfl⟩ := hrel
    have h1 := pw_pos k
    have h2 := pw_le (k := k) (by omega)
    by_cases hlt : k < n
    · go_wp2
      go_round
      case rel => exact ⟨k + 1, by omega, by go_num, int_val (pw_succ k).symm⟩
      case measure => simp [intOf]; omega
    · go_wp2
      go_ret
      have : k = n := by omega
      subst this
      exact ⟨rfl, rfl⟩
theorem mask_le (s : ByteArray) (k : Nat) (h : k < 16) : mask s.data.toList k ≤ 65535 := by
  have := mask_lt s.data.toList k
  have h2 : 2 ^ k ≤ 2 ^ 16 := Nat.pow_le_pow_right (by decide) (by omega)
  have : (2 : Nat) ^ 16 = 65536 := by decide
  omega
theorem refParse_point (s : ByteArray) (w : World) (h : s.data.toList = [46]) :
    Calls Tryz.prog 101 #[.string s] w fun e w' => e = .returned (.tuple #[.agg #[.int .i64 0, .int .i64 0], .int .i64 0]) ∧ Below w.heap.size w w' := by
  have hp := point_true s h
  clear h
  go_enter Tryz.func101, Tryz.ntmps101
  go_wp2_with fail
  exact bodyPost_ret (v := .tuple #[.agg #[.int .i64 0, .int .i64 0], .int .i64 0]) (by simp [results, Tryz.results101, go_sem]) rfl ⟨rfl, below_box _ _⟩
theorem refParse_empty (s : ByteArray) (w : World) (h : s.size = 0) :
    Calls Tryz.prog 101 #[.string s] w fun e w' => e = .returned (.tuple #[.agg #[.int .i64 0, .int .i64 0], .int .i64 16]) ∧ Below w.heap.size w w' := by
  have hp := point_false s (fun e => by have := size_len s; rw [e] at this; simp at this; omega)
  have he := empty_true s h
  clear h
  go_enter Tryz.func101, Tryz.ntmps101
  go_wp2_with fail
  exact bodyPost_ret (v := .tuple #[.agg #[.int .i64 0, .int .i64 0], .int .i64 16]) (by simp [results, Tryz.results101, go_sem]) rfl ⟨rfl, below_box _ _⟩
theorem refParse_long (s : ByteArray) (w : World) (h : 16 < s.size) :
    Calls Tryz.prog 101 #[.string s] w fun e w' => e = .returned (.tuple #[.agg #[.int .i64 0, .int .i64 0], .int .i64 16]) ∧ Below w.heap.size w w' := by
  have hp := point_false s (fun e => by have := size_len s; rw [e] at this; simp at this; omega)
  have he := empty_false s (by omega)
  go_enter Tryz.func101, Tryz.ntmps101
  go_wp2_with fail
  exact bodyPost_ret (v := .tuple #[.agg #[.int .i64 0, .int .i64 0], .int .i64 16]) (by simp [results, Tryz.results101, go_sem]) rfl ⟨rfl, below_box _ _⟩
set_option maxHeartbeats 400000 in
theorem refParse_letters (s : ByteArray) (w : World) (h0 : 0 < s.size) (h1 : s.size ≤ 16) (hs : s.data.toList ≠ [46]) :
    Calls Tryz.prog 101 #[.string s] w fun e w' => e = .returned (readL s.data.toList) ∧ Below w.heap.size w w' := by
  have hp := point_false s hs
  have he := empty_false s h0
  clear hs
  go_enter Tryz.func101, Tryz.ntmps101
  go_wp2_with fail
  go_loop [4, 5] (fun m i => ∃ k : Nat, k ≤ s.size ∧ i = .int .i64 k ∧ m = .int .i64 (mask s.data.toList k) ∧ Upto s k) (fun _ i => s.size - (intOf i).toNat)
  case atStart => exact ⟨0, Nat.zero_le _, rfl, rfl, upto_zero s⟩
  case round =>
    obtain ⟨k, hk, rfl, rfl, HU⟩ := hrel
    have HU := hide HU
    by_cases hlt : k < s.size
    · have hlt' : (k : Int) < s.size := by omega
      by_cases hc : (s[k].toNat : Int) = 105
      · have HM := hide (mask_i s k hlt (by omega))
        go_wp2_with fail
        go_round
        case rel => exact ⟨k + 1, by omega, by go_num, by rw [HM.out], upto_succ HU.out hlt (.inl hc)⟩
        case measure => simp [intOf]; omega
      · by_cases hc2 : (s[k].toNat : Int) = 112
        · have HM := hide (mask_p s k hlt hc2)
          have hb1 := mask_le s k (by omega)
          have hb2 := pw_le (k := k) (by omega)
          have hb3 := pw_pos k
          go_wp2_with fail
          refine (power_any k _ (by omega)).mono ?_; rintro e w1 ⟨rfl, rfl⟩
          go_wp2_with fail
          go_round
          case rel => exact ⟨k + 1, by omega, by go_num, int_val (by rw [HM.out]; unfold pw; omega), upto_succ HU.out hlt (.inr hc2)⟩
          case measure => simp [intOf]; omega
        · have HM := hide (readL_no hlt hc hc2)
          have n1 : ((s[k].toNat : Int) != 105) = true := by simpa using hc
          have n2 : ((s[k].toNat : Int) != 112) = true := by simpa using hc2
          go_wp2_with fail
          exact bodyPost_ret (v := .tuple #[.agg #[.int .i64 0, .int .i64 0], .int .i64 16]) (by simp [results, Tryz.results101, go_sem]) rfl ⟨by rw [HM.out], below_box _ _⟩
    · have : k = s.size := by omega
      subst this
      have HM := hide (readL_yes HU.out)
      go_wp2_with fail
      exact bodyPost_ret (v := .tuple #[.agg #[.int .i64 s.size, .int .i64 (mask s.data.toList s.size)], .int .i64 0]) (by simp [results, Tryz.results101, go_sem]) rfl ⟨by rw [HM.out], below_box _ _⟩
theorem refParse_all (s : ByteArray) (w : World) :
    Calls Tryz.prog 101 #[.string s] w fun e w' => e = .returned (readS s) ∧ Below w.heap.size w w' := by
  unfold readS
  by_cases hp : s.data.toList = [46]
  · rw [if_pos hp]; exact refParse_point s w hp
  rw [if_neg hp]
  by_cases h0 : s.size = 0
  · rw [if_pos (.inl h0)]; exact refParse_empty s w h0
  by_cases h1 : 16 < s.size
  · rw [if_pos (.inr h1)]; exact refParse_long s w h1
  rw [if_neg (by omega)]; exact refParse_letters s w (by omega) (by omega) hp
end Go.Proofs.YtmiplohoclckcaaGreat.L3
namespace Go.Proofs.YtmiplohoclckcaaGreat
open Go Go.RowKit
/-- A list of numbers that is read, wherever it begins. -/
def Sl (w : World) (ao : Option Addr) (l : List Int) : Prop := l = [] ∨ ∃ b o, ao = some ⟨b, o, none⟩ ∧ b < w.heap.size ∧ ∀ i n, l[i]? = some n → w.cell? ⟨b, o + i, none⟩ = some (.int .i64 n)
theorem Sl.below {w w' : World} {ao : Option Addr} {l : List Int} (h : Sl w ao l) (hb : Below w.heap.size w w') : Sl w' ao l := by
  rcases h with h | ⟨b, o, e, hl, hc⟩
  · exact .inl h
  · exact .inr ⟨b, o, e, Nat.lt_of_lt_of_le hl hb.size, fun i n hi => (hb.cell (p := ⟨b, o + i, none⟩) hl).trans (hc i n hi)⟩
/-- A number's digits, with a sign ahead. -/
def dig (n : Int) : List UInt8 := Lib.itoa n
def valW (n : Int) : List UInt8 := 37 :: dig n
def labW (n : Int) : List UInt8 := 98 :: dig n
def I64 (n : Int) : Prop := -9223372036854775808 ≤ n ∧ n ≤ 9223372036854775807
theorem cat_bs (x y : List UInt8) : bs x ++ bs y = bs (x ++ y) := by
  apply ByteArray.ext
  simp [bs]
end Go.Proofs.YtmiplohoclckcaaGreat
namespace Go.Proofs.YtmiplohoclckcaaGreat
open Go Go.RowKit
/-- Texts, one behind the other, with something between each two. -/
def jn (sep : List UInt8) : List (List UInt8) → List UInt8
  | [] => []
  | x :: r => x ++ r.flatMap fun y => sep ++ y
end Go.Proofs.YtmiplohoclckcaaGreat
namespace Go.Proofs.YtmiplohoclckcaaGreat
open Go Go.RowKit
open G (Tok Er Ins Fun)
/-- The words behind an instruction's own word. -/
def opdW (x : Ins) : List (List UInt8) :=
  if x.1 = 1 ∨ x.1 = 23 ∨ x.1 = 29 then [dig x.2.2.1]
  else if x.1 = 10 then [x.2.2.2.2.2.2.1]
  else if x.1 = 11 ∨ x.1 = 12 ∨ x.1 = 15 ∨ x.1 = 24 ∨ x.1 = 13 ∨ x.1 = 14 then (x.2.2.2.2.1.take 1).map valW ++ [dig x.2.2.1] ++ (x.2.2.2.2.1.drop 1).map valW
  else if x.1 = 20 then (x.2.2.2.2.2.1.zip x.2.2.2.2.1).flatMap fun q => [labW q.1, valW q.2]
  else if x.1 = 21 then (if x.2.2.1 ≠ 0 then [64 :: dig x.2.2.1] else []) ++ [x.2.2.2.2.2.2.1] ++ x.2.2.2.2.1.map valW
  else x.2.2.2.2.1.map valW ++ x.2.2.2.2.2.1.map labW
def insW (x : Ins) : List (List UInt8) := (if L5.imakes x.1 x.2.2.2.1 ≠ 0 then [valW x.2.1, [61]] else []) ++ [(L5.iword x.1 x.2.2.2.1).data.toList] ++ opdW x
/-- An instruction as a text. -/
def insT (x : Ins) : List UInt8 := jn [32] (insW x)
end Go.Proofs.YtmiplohoclckcaaGreat
namespace Go.Proofs.YtmiplohoclckcaaGreat
open Go Go.RowKit
open G (Tok Er Ins Fun)
/-- A value that is an instruction. -/
def InsV (w : World) (x : Ins) (v : Value) : Prop := ∃ ao to ca ct, v = .agg #[.int .i64 x.1, .int .i64 x.2.1, .int .i64 x.2.2.1, .int .i64 x.2.2.2.1, .slice ao x.2.2.2.2.1.length ca, .slice to x.2.2.2.2.2.1.length ct, .string (bs x.2.2.2.2.2.2.1), .int .i64 x.2.2.2.2.2.2.2] ∧
  Sl w ao x.2.2.2.2.1 ∧ Sl w to x.2.2.2.2.2.1 ∧ x.2.2.2.2.1.length ≤ ca ∧ ca ≤ maxLen ∧ x.2.2.2.2.2.1.length ≤ ct ∧ ct ≤ maxLen
end Go.Proofs.YtmiplohoclckcaaGreat
namespace Go.Proofs.YtmiplohoclckcaaGreat
open Go Go.RowKit
open G (Tok Er Ins Fun)
theorem box8 {w : World} {c : Nat} {a0 a1 a2 a3 a4 a5 a6 a7 : Value} (h : w.heap[c]? = some (.cells #[a0, a1, a2, a3, a4, a5, a6, a7] 67 (0, 0))) : w.cell? ⟨c, 0, none⟩ = some a0 ∧ w.cell? ⟨c, 1, none⟩ = some a1 ∧ w.cell? ⟨c, 2, none⟩ = some a2 ∧ w.cell? ⟨c, 3, none⟩ = some a3 ∧ w.cell? ⟨c, 4, none⟩ = some a4 ∧ w.cell? ⟨c, 5, none⟩ = some a5 ∧ w.cell? ⟨c, 6, none⟩ = some a6 ∧ w.cell? ⟨c, 7, none⟩ = some a7 := by
  simp [World.cell?, h]
end Go.Proofs.YtmiplohoclckcaaGreat
namespace Go.Proofs.YtmiplohoclckcaaGreat
open Go Go.RowKit
open G (Tok Er Ins Fun)
/-- A list of numbers as a value. -/
def IntsV (w : World) (l : List Int) (v : Value) : Prop := ∃ ao c, v = .slice ao l.length c ∧ Sl w ao l ∧ l.length ≤ c ∧ c ≤ maxLen
theorem IntsV.below {w w' : World} {l : List Int} {v : Value} (h : IntsV w l v) (b : Below w.heap.size w w') : IntsV w' l v := by
  obtain ⟨ao, c, e, h1, h2⟩ := h
  exact ⟨ao, c, e, h1.below b, h2⟩
def insC (x : Ins) (va vt : Value) : List Value := [.int .i64 x.1, .int .i64 x.2.1, .int .i64 x.2.2.1, .int .i64 x.2.2.2.1, va, vt, .string (bs x.2.2.2.2.2.2.1), .int .i64 x.2.2.2.2.2.2.2]
/-- An instruction whose cells stand from an offset of a block on. -/
def InsR (w : World) (x : Ins) (g o : Nat) : Prop := g < w.heap.size ∧ ∃ va vt, (∀ j t, (insC x va vt)[j]? = some t → w.cell? ⟨g, o + j, none⟩ = some t) ∧ IntsV w x.2.2.2.2.1 va ∧ IntsV w x.2.2.2.2.2.1 vt
theorem InsR.below {w w' : World} {x : Ins} {g o : Nat} (h : InsR w x g o) (b : Below w.heap.size w w') : InsR w' x g o := by
  obtain ⟨hg, va, vt, h1, h2, h3⟩ := h
  exact ⟨Nat.lt_of_lt_of_le hg b.size, va, vt, fun j t hj => (b.cell (p := ⟨g, o + j, none⟩) hg).trans (h1 j t hj), h2.below b, h3.below b⟩
/-- A block's instructions as a value. -/
def BlkR (w : World) (l : List Ins) (v : Value) : Prop := ∃ ao c, v = .slice ao l.length c ∧ l.length ≤ c ∧ c ≤ maxLen ∧ (l = [] ∨ ∃ g o, ao = some ⟨g, o, none⟩ ∧ ∀ i x, l[i]? = some x → InsR w x g (o + i * 8))
theorem BlkR.below {w w' : World} {l : List Ins} {v : Value} (h : BlkR w l v) (b : Below w.heap.size w w') : BlkR w' l v := by
  obtain ⟨ao, c, e, h1, h2, h3⟩ := h
  refine ⟨ao, c, e, h1, h2, ?_⟩
  rcases h3 with h3 | ⟨g, o, e2, h4⟩
  · exact .inl h3
  · exact .inr ⟨g, o, e2, fun i x hi => (h4 i x hi).below b⟩
/-- A function's blocks as a value. -/
def BlksR (w : World) (l : List (List Ins)) (v : Value) : Prop := ∃ ao c, v = .slice ao l.length c ∧ l.length ≤ c ∧ c ≤ maxLen ∧ (l = [] ∨ ∃ g o, ao = some ⟨g, o, none⟩ ∧ g < w.heap.size ∧ ∀ i b, l[i]? = some b → ∃ u, w.cell? ⟨g, o + i, none⟩ = some u ∧ BlkR w b u)
theorem BlksR.below {w w' : World} {l : List (List Ins)} {v : Value} (h : BlksR w l v) (b : Below w.heap.size w w') : BlksR w' l v := by
  obtain ⟨ao, c, e, h1, h2, h3⟩ := h
  refine ⟨ao, c, e, h1, h2, ?_⟩
  rcases h3 with h3 | ⟨g, o, e2, hg, h4⟩
  · exact .inl h3
  · refine .inr ⟨g, o, e2, Nat.lt_of_lt_of_le hg b.size, fun i x hi => ?_⟩
    obtain ⟨u, hu, hb⟩ := h4 i x hi
    exact ⟨u, (b.cell (p := ⟨g, o + i, none⟩) hg).trans hu, hb.below b⟩
def funC (f : Fun) (vp vb : Value) : List Value := [.string (bs f.1), vp, .int .i64 f.2.2.1, vb, .int .i64 f.2.2.2.2]
/-- A function as a value. -/
def FunV (w : World) (f : Fun) (v : Value) : Prop := ∃ vp vb, v = .agg #[.string (bs f.1), vp, .int .i64 f.2.2.1, vb, .int .i64 f.2.2.2.2] ∧ IntsV w f.2.1 vp ∧ BlksR w f.2.2.2.1 vb
theorem FunV.below {w w' : World} {f : Fun} {v : Value} (h : FunV w f v) (b : Below w.heap.size w w') : FunV w' f v := by
  obtain ⟨vp, vb, e, h1, h2⟩ := h
  exact ⟨vp, vb, e, h1.below b, h2.below b⟩
def FunR (w : World) (f : Fun) (g o : Nat) : Prop := g < w.heap.size ∧ ∃ vp vb, (∀ j t, (funC f vp vb)[j]? = some t → w.cell? ⟨g, o + j, none⟩ = some t) ∧ IntsV w f.2.1 vp ∧ BlksR w f.2.2.2.1 vb
theorem FunR.below {w w' : World} {x : Fun} {g o : Nat} (h : FunR w x g o) (b : Below w.heap.size w w') : FunR w' x g o := by
  obtain ⟨hg, va, vt, h1, h2, h3⟩ := h
  exact ⟨Nat.lt_of_lt_of_le hg b.size, va, vt, fun j t hj => (b.cell (p := ⟨g, o + j, none⟩) hg).trans (h1 j t hj), h2.below b, h3.below b⟩
/-- A program as a value. -/
def ProgR (w : World) (l : List Fun) (v : Value) : Prop := ∃ ao c, v = .slice ao l.length c ∧ l.length ≤ c ∧ c ≤ maxLen ∧ (l = [] ∨ ∃ g o, ao = some ⟨g, o, none⟩ ∧ ∀ i x, l[i]? = some x → FunR w x g (o + i * 5))
theorem ProgR.below {w w' : World} {l : List Fun} {v : Value} (h : ProgR w l v) (b : Below w.heap.size w w') : ProgR w' l v := by
  obtain ⟨ao, c, e, h1, h2, h3⟩ := h
  refine ⟨ao, c, e, h1, h2, ?_⟩
  rcases h3 with h3 | ⟨g, o, e2, h4⟩
  · exact .inl h3
  · exact .inr ⟨g, o, e2, fun i x hi => (h4 i x hi).below b⟩
/-- A type's letter as bytes. -/
def letL (t : Int) : List UInt8 := (L5.letter t).data.toList
def parT (ps : List Int) : List UInt8 := jn [32] (ps.map letL)
/-- A block's lines, behind its number. -/
def blkW (k : Nat) (b : List Ins) : List (List UInt8) := [labW (k : Int), [58, 10]] ++ b.flatMap fun x => [[32, 32], insT x, [10]]
def blksW : Nat → List (List Ins) → List (List UInt8)
  | _, [] => []
  | k, b :: r => blkW k b ++ blksW (k + 1) r
def headW (f : Fun) : List (List UInt8) := [[102, 117, 110, 99, 32], f.1, [40], parT f.2.1, [41, 32], letL f.2.2.1, [32, 123, 10]]
def funW (f : Fun) : List (List UInt8) := headW f ++ blksW 0 f.2.2.2.1 ++ [[125, 10]]
theorem box5 {w : World} {c : Nat} {a0 a1 a2 a3 a4 : Value} (h : w.heap[c]? = some (.cells #[a0, a1, a2, a3, a4] 25 (0, 0))) : w.cell? ⟨c, 0, none⟩ = some a0 ∧ w.cell? ⟨c, 1, none⟩ = some a1 ∧ w.cell? ⟨c, 2, none⟩ = some a2 ∧ w.cell? ⟨c, 3, none⟩ = some a3 ∧ w.cell? ⟨c, 4, none⟩ = some a4 := by
  simp [World.cell?, h]
end Go.Proofs.YtmiplohoclckcaaGreat
namespace Go.Proofs.YtmiplohoclckcaaGreat
open Go Go.RowKit
open G (Tok Er Ins Fun)
theorem InsR.val {w : World} {x : Ins} {g o : Nat} (h : InsR w x g o) : ∃ ao to ca ct, InsV w x (.agg #[.int .i64 x.1, .int .i64 x.2.1, .int .i64 x.2.2.1, .int .i64 x.2.2.2.1, .slice ao x.2.2.2.2.1.length ca, .slice to x.2.2.2.2.2.1.length ct, .string (bs x.2.2.2.2.2.2.1), .int .i64 x.2.2.2.2.2.2.2]) ∧
    w.cell? ⟨g, o, none⟩ = some (.int .i64 x.1) ∧ w.cell? ⟨g, o + 1, none⟩ = some (.int .i64 x.2.1) ∧ w.cell? ⟨g, o + 2, none⟩ = some (.int .i64 x.2.2.1) ∧ w.cell? ⟨g, o + 3, none⟩ = some (.int .i64 x.2.2.2.1) ∧
    w.cell? ⟨g, o + 4, none⟩ = some (.slice ao x.2.2.2.2.1.length ca) ∧ w.cell? ⟨g, o + 5, none⟩ = some (.slice to x.2.2.2.2.2.1.length ct) ∧ w.cell? ⟨g, o + 6, none⟩ = some (.string (bs x.2.2.2.2.2.2.1)) ∧ w.cell? ⟨g, o + 7, none⟩ = some (.int .i64 x.2.2.2.2.2.2.2) := by
  obtain ⟨hg, va, vt, h1, ⟨ao, ca, rfl, a1, a2, a3⟩, ⟨to, ct, rfl, t1, t2, t3⟩⟩ := h
  exact ⟨ao, to, ca, ct, ⟨ao, to, ca, ct, rfl, a1, t1, a2, a3, t2, t3⟩, h1 0 _ rfl, h1 1 _ rfl, h1 2 _ rfl, h1 3 _ rfl, h1 4 _ rfl, h1 5 _ rfl, h1 6 _ rfl, h1 7 _ rfl⟩
end Go.Proofs.YtmiplohoclckcaaGreat
namespace Go.Proofs.YtmiplohoclckcaaGreat
open Go Go.RowKit
open G (Tok Er Ins Fun)
theorem FunR.val {w : World} {f : Fun} {g o : Nat} (h : FunR w f g o) : ∃ ao bo c cb, FunV w f (.agg #[.string (bs f.1), .slice ao f.2.1.length c, .int .i64 f.2.2.1, .slice bo f.2.2.2.1.length cb, .int .i64 f.2.2.2.2]) ∧
    w.cell? ⟨g, o, none⟩ = some (.string (bs f.1)) ∧ w.cell? ⟨g, o + 1, none⟩ = some (.slice ao f.2.1.length c) ∧ w.cell? ⟨g, o + 2, none⟩ = some (.int .i64 f.2.2.1) ∧ w.cell? ⟨g, o + 3, none⟩ = some (.slice bo f.2.2.2.1.length cb) ∧ w.cell? ⟨g, o + 4, none⟩ = some (.int .i64 f.2.2.2.2) := by
  obtain ⟨hg, va, vt, h1, h2, h3⟩ := h
  have h2' := h2
  have h3' := h3
  obtain ⟨ao, c, rfl, _⟩ := h2
  obtain ⟨bo, cb, rfl, _⟩ := h3
  exact ⟨ao, bo, c, cb, ⟨_, _, rfl, h2', h3'⟩, h1 0 _ rfl, h1 1 _ rfl, h1 2 _ rfl, h1 3 _ rfl, h1 4 _ rfl⟩
end Go.Proofs.YtmiplohoclckcaaGreat
namespace Go.Proofs.YtmiplohoclckcaaGreat
open Go Go.RowKit
open G (Tok Er Ins Fun)
def wI (x : Ins) : Nat := 1 + x.2.2.2.2.1.length / 4 + x.2.2.2.2.2.1.length / 4 + x.2.2.2.2.2.2.1.length / 30
def wB (b : List Ins) : Nat := (b.map wI).sum
/-- No part is longer than a process can hold. -/
def ShI (x : Ins) : Prop := x.2.2.2.2.1.length ≤ 140737488355328 ∧ x.2.2.2.2.2.1.length ≤ 140737488355328 ∧ x.2.2.2.2.2.2.1.length ≤ 140737488355328
def ShF (f : Fun) : Prop := f.1.length ≤ 140737488355328 ∧ f.2.1.length ≤ 140737488355328 ∧ f.2.2.2.1.length ≤ 140737488355328 ∧ ∀ b ∈ f.2.2.2.1, ∀ x ∈ b, ShI x
end Go.Proofs.YtmiplohoclckcaaGreat
namespace Go.Proofs.YtmiplohoclckcaaGreat
open Go Go.RowKit
open G (Tok Er Ins Fun peek0 peek1 atOf)
theorem ints_at {l : List Int} {i : Nat} {n : Int} (h : l[i]? = some n) : (ints l)[i]? = some (.int .i64 n) := by
  show (l.map _)[i]? = _
  rw [List.getElem?_map, h]; rfl
theorem ints_of {B : Nat} {w : World} {l : List Int} {v : Value} (h : w.ownsRow B 3 1 v l.length (ints l)) : IntsV w l v := by
  rcases own_view h with ⟨rfl, hn⟩ | ⟨g, cap, rfl, h1, h2, h3, h4, h5, h6⟩
  · have e : l = [] := List.length_eq_zero_iff.1 hn
    subst e
    exact ⟨none, 0, rfl, .inl rfl, Nat.le_refl _, Nat.zero_le _⟩
  · exact ⟨some ⟨g, 0, none⟩, cap, rfl, .inr ⟨g, 0, rfl, h4, fun i n hi => by rw [Nat.zero_add]; exact h5 i _ (ints_at hi)⟩, h1, h2⟩
theorem blk_of {B : Nat} {w : World} {l : List Ins} {v : Value} (h : BlkVal B l v w) : BlkR w l v := by
  obtain ⟨cs, h0, hR⟩ := h
  rcases own_view h0 with ⟨rfl, hn⟩ | ⟨g, cap, rfl, h1, h2, h3, h4, h5, h6⟩
  · have e : l = [] := List.length_eq_zero_iff.1 hn
    subst e
    exact ⟨none, 0, rfl, Nat.le_refl _, Nat.zero_le _, .inl rfl⟩
  · refine ⟨some ⟨g, 0, none⟩, cap, rfl, h1, h2, .inr ⟨g, 0, rfl, fun i x hi => ?_⟩⟩
    obtain ⟨va, vt, k1, k2, k3⟩ := InsRow.at _ _ i x hR hi
    exact ⟨h4, va, vt, fun j t hj => by rw [Nat.zero_add]; exact h5 _ _ (k1 j t hj), ints_of k2, ints_of k3⟩
theorem blks_of {B : Nat} {w : World} {l : List (List Ins)} {v : Value} (h : BlksVal B l v w) : BlksR w l v := by
  obtain ⟨cs, h0, hR⟩ := h
  rcases own_view h0 with ⟨rfl, hn⟩ | ⟨g, cap, rfl, h1, h2, h3, h4, h5, h6⟩
  · have e : l = [] := List.length_eq_zero_iff.1 hn
    subst e
    exact ⟨none, 0, rfl, Nat.le_refl _, Nat.zero_le _, .inl rfl⟩
  · refine ⟨some ⟨g, 0, none⟩, cap, rfl, h1, h2, .inr ⟨g, 0, rfl, h4, fun i b hi => ?_⟩⟩
    obtain ⟨u, k1, k2⟩ := BRow.at _ _ i b hR hi
    exact ⟨u, by rw [Nat.zero_add]; exact h5 _ _ k1, blk_of k2⟩
end Go.Proofs.YtmiplohoclckcaaGreat
namespace Go.Proofs.YtmiplohoclckcaaGreat.G
/-- But for where it stands. -/
def noI (x : Ins) : Ins := (x.1, x.2.1, x.2.2.1, x.2.2.2.1, x.2.2.2.2.1, x.2.2.2.2.2.1, x.2.2.2.2.2.2.1, 0)
def noB (b : List Ins) : List Ins := b.map noI
def noF (f : Fun) : Fun := (f.1, f.2.1, f.2.2.1, f.2.2.2.1.map noB, 0)
section
variable (dig : Int → List UInt8) (iw : Int → Int → List UInt8) (mks : Int → Int → Int)
variable (ltr : Int → List UInt8)
end
section
variable (nam : List UInt8 → Bool) (shp : List UInt8 → Int) (tks : Int → Nat)
variable (good : Int → Int → Bool) (mks : Int → Int → Int)
end
section
variable {E : Int} {num : List UInt8 → Int × Int} {idx : List UInt8 → Int → Option Int} {nam : List UInt8 → Bool} {shp : List UInt8 → Int} {tks : Int → Nat} {fnd : List UInt8 → Int × Int} {mks : Int → Int → Int} {prt : Nat → List UInt8 → Bool}
variable {dig : Int → List UInt8} {iw : Int → Int → List UInt8} {good : Int → Int → Bool} {ltr : Int → List UInt8}
end
end Go.Proofs.YtmiplohoclckcaaGreat.G
