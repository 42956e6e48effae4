/- More contracts of elder functions, carried over to this dump. -/
import Derived.Test.YtahhbckccdigoaaGreatDoorMwAB
import Derived.Test.YtahhbckccdigoaaGreatDoorMwAC
import Derived.Test.YtahhbckccdigoaaGreatDoorMwAD
import Derived.Laws.BitsLemmas
import Derived.Laws.BitsAllLaws
import Derived.RowKit
import Derived.Test.YtahhbckccdigoaaGreatDoorProg
import Derived.WalkKit
import Derived.WalkSpells
import Derived.WalkSmall
import Derived.WalkLawsBesides
import Derived.KernelRfl
import Derived.Below
import Derived.Deep.QuietTactic
import Derived.BigQuiet
import Derived.RegionTactic
import Derived.BigRegion
import Derived.Lib.SmallJoins
import Derived.Deep.Cut
import Derived.Laws.AppendOwn
import Derived.OwnWalk
import Derived.Lib.OthersKept
import Derived.Deep.RegionHeld3
import Derived.Deep.AppendLies
import Derived.Deep.DrawnRows
import Derived.Deep.RegionLaw
import Derived.Deep.RegionWith
namespace Go.Proofs.YtahhbckccdigoaaGreatDoor.L3
open Go
open Go Go.RowKit
theorem pw_succ (k : Nat) : pw (k + 1) = pw k * 2 := by
  unfold pw; rw [Nat.pow_succ]; simp
theorem pw_pos (k : Nat) : 1 ≤ pw k := by
  have : 0 < 2 ^ k := Nat.two_pow_pos k
  unfold pw; omega
theorem pw_mono {i j : Nat} (h : i ≤ j) : pw i ≤ pw j := by
  have : 2 ^ i ≤ 2 ^ j := Nat.pow_le_pow_right (by decide) h
  unfold pw; omega
theorem pw_le {k : Nat} (h : k ≤ 16) : pw k ≤ 65536 := pw_mono (j := 16) h
theorem int_val {k : IntKind} {a b : Int} (h : a = b) : Value.int k a = .int k b := congrArg (Value.int k) h
theorem power_any (n : Nat) (w : World) (hn : n ≤ 16) :
    Calls Tryz.prog 76 #[.int .i64 n] w fun e w' => e = .returned (.int .i64 (pw n)) ∧ w' = w := by
  go_enter Tryz.func76, Tryz.ntmps76
  go_wp2
  go_loop [3, 4] (fun o i => ∃ k : Nat, k ≤ n ∧ i = .int .i64 k ∧ o = .int .i64 (pw k)) (fun _ i => n - (intOf i).toNat)
  case atStart => exact ⟨0, Nat.zero_le _, rfl, rfl⟩
  case round =>
    obtain ⟨k, hk, rfl, rfl⟩ := hrel
    have h1 := pw_pos k
    have h2 := pw_le (k := k) (by omega)
    by_cases hlt : k < n
    · go_wp2
      go_round
      case rel => exact ⟨k + 1, by omega, by go_num, int_val (pw_succ k).symm⟩
      case measure => simp [intOf]; omega
    · go_wp2
      go_ret
      have : k = n := by omega
      subst this
      exact ⟨rfl, rfl⟩
theorem mask_le (s : ByteArray) (k : Nat) (h : k < 16) : mask s.data.toList k ≤ 65535 := by
  have := mask_lt s.data.toList k
  have h2 : 2 ^ k ≤ 2 ^ 16 := Nat.pow_le_pow_right (by decide) (by omega)
  have : (2 : Nat) ^ 16 = 65536 := by decide
  omega
theorem refParse_point (s : ByteArray) (w : World) (h : s.data.toList = [46]) :
    Calls Tryz.prog 50 #[.string s] w fun e w' => e = .returned (.tuple #[.agg #[.int .i64 0, .int .i64 0], .int .i64 0]) ∧ Below w.heap.size w w' := by
  have hp := point_true s h
  clear h
  go_enter Tryz.func50, Tryz.ntmps50
  go_wp2_with fail
  exact bodyPost_ret (v := .tuple #[.agg #[.int .i64 0, .int .i64 0], .int .i64 0]) (by simp [results, Tryz.results50, go_sem]) rfl ⟨rfl, below_box _ _⟩
theorem refParse_empty (s : ByteArray) (w : World) (h : s.size = 0) :
    Calls Tryz.prog 50 #[.string s] w fun e w' => e = .returned (.tuple #[.agg #[.int .i64 0, .int .i64 0], .int .i64 16]) ∧ Below w.heap.size w w' := by
  have hp := point_false s (fun e => by have := size_len s; rw [e] at this; simp at this; omega)
  have he := empty_true s h
  clear h
  go_enter Tryz.func50, Tryz.ntmps50
  go_wp2_with fail
  exact bodyPost_ret (v := .tuple #[.agg #[.int .i64 0, .int .i64 0], .int .i64 16]) (by simp [results, Tryz.results50, go_sem]) rfl ⟨rfl, below_box _ _⟩
theorem refParse_long (s : ByteArray) (w : World) (h : 16 < s.size) :
    Calls Tryz.prog 50 #[.string s] w fun e w' => e = .returned (.tuple #[.agg #[.int .i64 0, .int .i64 0], .int .i64 16]) ∧ Below w.heap.size w w' := by
  have hp := point_false s (fun e => by have := size_len s; rw [e] at this; simp at this; omega)
  have he := empty_false s (by omega)
  go_enter Tryz.func50, Tryz.ntmps50
  go_wp2_with fail
  exact bodyPost_ret (v := .tuple #[.agg #[.int .i64 0, .int .i64 0], .int .i64 16]) (by simp [results, Tryz.results50, go_sem]) rfl ⟨rfl, below_box _ _⟩
set_option maxHeartbeats 400000 in
theorem refParse_letters (s : ByteArray) (w : World) (h0 : 0 < s.size) (h1 : s.size ≤ 16) (hs : s.data.toList ≠ [46]) :
    Calls Tryz.prog 50 #[.string s] w fun e w' => e = .returned (readL s.data.toList) ∧ Below w.heap.size w w' := by
  have hp := point_false s hs
  have he := empty_false s h0
  clear hs
  go_enter Tryz.func50, Tryz.ntmps50
  go_wp2_with fail
  go_loop [4, 5] (fun m i => ∃ k : Nat, k ≤ s.size ∧ i = .int .i64 k ∧ m = .int .i64 (mask s.data.toList k) ∧ Upto s k) (fun _ i => s.size - (intOf i).toNat)
  case atStart => exact ⟨0, Nat.zero_le _, rfl, rfl, upto_zero s⟩
  case round =>
    obtain ⟨k, hk, rfl, rfl, HU⟩ := hrel
    have HU := hide HU
    by_cases hlt : k < s.size
    · have hlt' : (k : Int) < s.size := by omega
      by_cases hc : (s[k].toNat : Int) = 105
      · have HM := hide (mask_i s k hlt (by omega))
        go_wp2_with fail
        go_round
        case rel => exact ⟨k + 1, by omega, by go_num, by rw [HM.out], upto_succ HU.out hlt (.inl hc)⟩
        case measure => simp [intOf]; omega
      · by_cases hc2 : (s[k].toNat : Int) = 112
        · have HM := hide (mask_p s k hlt hc2)
          have hb1 := mask_le s k (by omega)
          have hb2 := pw_le (k := k) (by omega)
          have hb3 := pw_pos k
          go_wp2_with fail
          refine (power_any k _ (by omega)).mono ?_; rintro e w1 ⟨rfl, rfl⟩
          go_wp2_with fail
          go_round
          case rel => exact ⟨k + 1, by omega, by go_num, int_val (by rw [HM.out]; unfold pw; omega), upto_succ HU.out hlt (.inr hc2)⟩
          case measure => simp [intOf]; omega
        · have HM := hide (readL_no hlt hc hc2)
          have n1 : ((s[k].toNat : Int) != 105) = true := by simpa using hc
          have n2 : ((s[k].toNat : Int) != 112) = true := by simpa using hc2
          go_wp2_with fail
          exact bodyPost_ret (v := .tuple #[.agg #[.int .i64 0, .int .i64 0], .int .i64 16]) (by simp [results, Tryz.results50, go_sem]) rfl ⟨by rw [HM.out], below_box _ _⟩
    · have : k = s.size := by omega
      subst this
      have HM := hide (readL_yes HU.out)
      go_wp2_with fail
      exact bodyPost_ret (v := .tuple #[.agg #[.int .i64 s.size, .int .i64 (mask s.data.toList s.size)], .int .i64 0]) (by simp [results, Tryz.results50, go_sem]) rfl ⟨by rw [HM.out], below_box _ _⟩
theorem refParse_all (s : ByteArray) (w : World) :
    Calls Tryz.prog 50 #[.string s] w fun e w' => e = .returned (readS s) ∧ Below w.heap.size w w' := by
  unfold readS
  by_cases hp : s.data.toList = [46]
  · rw [if_pos hp]; exact refParse_point s w hp
  rw [if_neg hp]
  by_cases h0 : s.size = 0
  · rw [if_pos (.inl h0)]; exact refParse_empty s w h0
  by_cases h1 : 16 < s.size
  · rw [if_pos (.inr h1)]; exact refParse_long s w h1
  rw [if_neg (by omega)]; exact refParse_letters s w (by omega) (by omega) hp
end Go.Proofs.YtahhbckccdigoaaGreatDoor.L3
namespace Go.Proofs.YtahhbckccdigoaaGreatDoor.L5
open Go
open Go Go.RowKit
theorem refLetter_any (t : Int) (w : World) : Calls Tryz.prog 29 #[.int .i64 t] w fun e w' => e = .returned (.string (letter t)) ∧ w' = w := by
  by_cases h1 : t = 1
  · subst h1; go_enter Tryz.func29, Tryz.ntmps29; go_wp2; go_ret; exact ⟨rfl, rfl⟩
  by_cases h2 : t = 2
  · subst h2; go_enter Tryz.func29, Tryz.ntmps29; go_wp2; go_ret; exact ⟨rfl, rfl⟩
  by_cases h3 : t = 3
  · subst h3; go_enter Tryz.func29, Tryz.ntmps29; go_wp2; go_ret; exact ⟨rfl, rfl⟩
  have HL : Hid (letter t = ⟨#[110]⟩) := hide (by simp [letter, h1, h2, h3])
  go_enter Tryz.func29, Tryz.ntmps29
  go_wp2
  go_ret
  exact ⟨ret_str HL.out.symm, rfl⟩
theorem refMay_any (op t : Int) (w : World) : Calls Tryz.prog 47 #[.int .i64 op, .int .i64 t] w fun e w' => e = .returned (.bool (may op t)) ∧ w' = w := by
  by_cases h1 : op = 20
  · subst h1
    have HL : Hid (may 20 t = decide (t = 1 ∨ t = 2 ∨ t = 3)) := hide rfl
    go_enter Tryz.func47, Tryz.ntmps47
    go_wp2
    all_goals (go_ret; refine ⟨ret_bool ?_, rfl⟩; rw [HL.out, Bool.eq_iff_iff]; simp; try omega)
  by_cases h2 : op = 21
  · subst h2
    have HL : Hid (may 21 t = decide (t = 0 ∨ t = 1 ∨ t = 2)) := hide rfl
    go_enter Tryz.func47, Tryz.ntmps47
    go_wp2
    all_goals (go_ret; refine ⟨ret_bool ?_, rfl⟩; rw [HL.out, Bool.eq_iff_iff]; simp; try omega)
  by_cases h3 : op = 24
  · subst h3
    have HL : Hid (may 24 t = decide (t = 2 ∨ t = 3)) := hide rfl
    go_enter Tryz.func47, Tryz.ntmps47
    go_wp2
    all_goals (go_ret; refine ⟨ret_bool ?_, rfl⟩; rw [HL.out, Bool.eq_iff_iff]; simp; try omega)
  have HL : Hid (may op t = decide (t = 0)) := hide (by simp [may, h1, h2, h3])
  go_enter Tryz.func47, Tryz.ntmps47
  go_wp2
  all_goals (go_ret; refine ⟨ret_bool ?_, rfl⟩; rw [HL.out, Bool.eq_iff_iff]; simp; try omega)
/-- A block of numbers that was just made reads as its list. -/
theorem new_list (l : List Int) (w : World) (t : TypeId) : ∀ i, i < l.length → (w.alloc (.cells (l.map (Value.int .i64)).toArray t)).cell? ⟨w.heap.size, i, none⟩ = some (.int .i64 (nth l i)) := by
  intro i hi
  rw [Joins.cell_alloc_mark_at _ _ _ _ _ _ rfl]
  simp [nth, hi]
def wordsA : Array Value := ((List.range 30).map (fun k => Value.string (word k))).toArray
theorem new_words (w : World) (t : TypeId) (k : Nat) (hk : k < 30) : (w.alloc (.cells wordsA t)).cell? ⟨w.heap.size, k, none⟩ = some (.string (word k)) := by
  rw [Joins.cell_alloc_mark_at _ _ _ _ _ _ rfl]
  simp [wordsA, hk]
theorem refWord_in (k : Nat) (w : World) (h0 : 1 ≤ k) (h1 : k ≤ 29) : Calls Tryz.prog 69 #[.int .i64 k] w fun e w' => e = .returned (.string (word k)) ∧ Below w.heap.size w w' := by
  have hc := new_words w 9 k (by omega)
  have HB := hide (below_box w (.cells wordsA 9))
  go_enter Tryz.func69, Tryz.ntmps69
  go_upto_region 2 with fail
  show Code.wp _ _ _ _ (w.alloc (.cells wordsA 9))
  generalize w.alloc (.cells wordsA 9) = W at *
  go_wp2_with fail
  go_ret
  exact ⟨rfl, HB.out⟩
theorem refWord_out (op : Int) (w : World) (h : ¬ (1 ≤ op ∧ op ≤ 29)) : Calls Tryz.prog 69 #[.int .i64 op] w fun e w' => e = .returned (.string (word 0)) ∧ Below w.heap.size w w' := by
  have HB := hide (below_box w (.cells wordsA 9))
  by_cases h1 : op < 1
  all_goals
    go_enter Tryz.func69, Tryz.ntmps69
    go_upto_region 2 with fail
    show Code.wp _ _ _ _ (w.alloc (.cells wordsA 9))
    generalize w.alloc (.cells wordsA 9) = W at *
    go_wp2_with fail
    go_ret
    exact ⟨rfl, HB.out⟩
theorem refWord_any (op : Int) (w : World) : Calls Tryz.prog 69 #[.int .i64 op] w fun e w' => e = .returned (.string (word (num op))) ∧ Below w.heap.size w w' := by
  by_cases h : 1 ≤ op ∧ op ≤ 29
  · have e : op = (op.toNat : Int) := by omega
    have := refWord_in op.toNat w (by omega) (by omega)
    rw [← e] at this
    rwa [show num op = op.toNat from if_pos h]
  · rw [num_out h]; exact refWord_out op w h
theorem refWordI_any (op t : Int) (a b c d e f : Value) (w : World) : Calls Tryz.prog 35 #[.agg #[.int .i64 op, a, b, .int .i64 t, c, d, e, f]] w fun e w' => e = .returned (.string (iword op t)) ∧ Below w.heap.size w w' := by
  have HB := hide (Box.new w [.int .i64 op, a, b, .int .i64 t, c, d, e, f] 39)
  have Hb := hide (below_box w (.cells #[.int .i64 op, a, b, .int .i64 t, c, d, e, f] 39))
  cases h : beside (num op) 128
  · have HM := hide (iword_plain (t := t) h)
    replace h := hide h
    go_enter Tryz.func35, Tryz.ntmps35
    go_wp2_with fail
    refine (typed_any op _).mono ?_; rintro e w1 ⟨rfl, rfl⟩
    rw [h.out]
    go_wp2_with fail
    refine (refWord_any op _).mono ?_; rintro e w2 ⟨rfl, b2⟩
    go_wp2_with fail
    go_ret
    exact ⟨ret_str HM.out, below_step Hb.out b2⟩
  · have HM := hide (iword_typed (t := t) h)
    replace h := hide h
    go_enter Tryz.func35, Tryz.ntmps35
    go_wp2_with fail
    refine (typed_any op _).mono ?_; rintro e w1 ⟨rfl, rfl⟩
    rw [h.out]
    have hz := word_size op
    have hl := letter_size t
    have c0 := fun x => (grew_box HB.out x).2 0 _ rfl
    have c3 := fun x => (grew_box HB.out x).2 3 _ rfl
    go_wp2_with fail
    refine region_grew (by kernel_rfl) (by kernel_rfl) ?_
    repeat (go_big_quiet_step ((first
      | (go_at_call 69; exact calls_grew (refWord_any op _))
      | (go_at_call 29; exact calls_grew_same (refLetter_any t _)))))
    refine wpQuiet_nil ?_
    rintro _ ⟨x, rfl⟩
    go_wp2_with fail
    go_ret
    exact ⟨ret_str HM.out, below_step Hb.out (grewTo_below _ x)⟩
theorem lists_new {k : Nat} (l : List Int) (hl : takes k = l) (w : World) (n cap : Nat) (hn : l.length = n) (C : Array Value) (hC : (l.map (Value.int .i64)).toArray = C) :
    Lists (takes k) w (.returned (.slice (some ⟨w.heap.size, 0, none⟩) n cap)) (w.alloc (.cells C 3)) := by
  subst hn hC
  rw [hl]
  exact ⟨_, _, rfl, .inr ⟨_, rfl, by simp, new_list l w 3⟩, below_box _ _⟩
theorem lists_at {op : Int} (k : Int) (l : List Int) (h : (op == k) = true) (hl : takes (num k) = l) (w : World) (n cap : Nat) (hn : l.length = n) (C : Array Value) (hC : (l.map (Value.int .i64)).toArray = C) :
    Lists (takes (num op)) w (.returned (.slice (some ⟨w.heap.size, 0, none⟩) n cap)) (w.alloc (.cells C 3)) := by
  have : op = k := by simpa using h
  subst this
  exact lists_new l hl w n cap hn C hC
theorem takes_two {op : Int} (h1 : 2 ≤ op) (h2 : op ≤ 7) : takes (num op) = [1, 1] := by
  have hk : ∀ k, k ≤ 7 → 2 ≤ k → takes k = [1, 1] := by decide +kernel
  rw [show num op = op.toNat from if_pos (by omega)]
  exact hk _ (by omega) (by omega)
theorem takes_none {op : Int} (h : ¬ (2 ≤ op ∧ op ≤ 7)) (h2 : [9, 14, 11, 12, 15, 25, 13, 16, 17, 18, 19, 22, 27].contains op = false) : takes (num op) = [] := by
  by_cases ho : 1 ≤ op ∧ op ≤ 29
  · have e : op = ((op.toNat : Nat) : Int) := by omega
    have hk : ∀ k, k ≤ 29 → ¬ (2 ≤ k ∧ k ≤ 7) → [9, 14, 11, 12, 15, 25, 13, 16, 17, 18, 19, 22, 27].contains ((k : Nat) : Int) = false → takes k = [] := by decide +kernel
    rw [show num op = op.toNat from if_pos ho]
    exact hk op.toNat (by omega) (by omega) (by rw [← e]; exact h2)
  · rw [num_out ho]; rfl
theorem lists_none {op : Int} (h : ¬ (2 ≤ op ∧ op ≤ 7)) (h9 : (op == 9) = false) (h14 : (op == 14) = false) (h11 : (op == 11) = false) (h12 : (op == 12) = false) (h15 : (op == 15) = false) (h25 : (op == 25) = false) (h13 : (op == 13) = false) (h16 : (op == 16) = false) (h17 : (op == 17) = false) (h18 : (op == 18) = false) (h19 : (op == 19) = false) (h22 : (op == 22) = false) (h27 : (op == 27) = false) (w : World) :
    Lists (takes (num op)) w (.returned (.slice none 0 0)) w := by
  rw [takes_none h (by simp only [List.contains_cons, List.contains_nil, h9, h14, h11, h12, h15, h25, h13, h16, h17, h18, h19, h22, h27]; rfl)]
  exact ⟨none, 0, rfl, .inl rfl, Below.refl _ _⟩
theorem refTakes_two (op : Int) (w : World) (h1 : 2 ≤ op) (h2 : op ≤ 7) : Calls Tryz.prog 75 #[.int .i64 op] w (Lists (takes (num op)) w) := by
  have HL := hide (takes_two h1 h2)
  go_enter Tryz.func75, Tryz.ntmps75
  go_wp2_with fail
  go_ret
  exact lists_new [1, 1] HL.out w _ _ rfl _ rfl
theorem refTakes_else (op : Int) (w : World) (h : ¬ (2 ≤ op ∧ op ≤ 7)) : Calls Tryz.prog 75 #[.int .i64 op] w (Lists (takes (num op)) w) := by
  have HH := hide h
  by_cases hx : 2 ≤ op
  all_goals
    go_enter Tryz.func75, Tryz.ntmps75
    go_wp2_with fail
    all_goals go_ret
    all_goals first
      | exact lists_at 9 [2, 2] (by assumption) rfl w _ _ rfl _ rfl
      | exact lists_at 14 [2, 2] (by assumption) rfl w _ _ rfl _ rfl
      | exact lists_at 11 [2] (by assumption) rfl w _ _ rfl _ rfl
      | exact lists_at 12 [2] (by assumption) rfl w _ _ rfl _ rfl
      | exact lists_at 15 [2] (by assumption) rfl w _ _ rfl _ rfl
      | exact lists_at 25 [2] (by assumption) rfl w _ _ rfl _ rfl
      | exact lists_at 13 [2, 1] (by assumption) rfl w _ _ rfl _ rfl
      | exact lists_at 16 [3] (by assumption) rfl w _ _ rfl _ rfl
      | exact lists_at 17 [3] (by assumption) rfl w _ _ rfl _ rfl
      | exact lists_at 18 [3, 1] (by assumption) rfl w _ _ rfl _ rfl
      | exact lists_at 19 [3, 2] (by assumption) rfl w _ _ rfl _ rfl
      | exact lists_at 22 [1] (by assumption) rfl w _ _ rfl _ rfl
      | exact lists_at 27 [1] (by assumption) rfl w _ _ rfl _ rfl
      | exact lists_none HH.out (by assumption) (by assumption) (by assumption) (by assumption) (by assumption) (by assumption) (by assumption) (by assumption) (by assumption) (by assumption) (by assumption) (by assumption) (by assumption) w
theorem refTakes_any (op : Int) (w : World) : Calls Tryz.prog 75 #[.int .i64 op] w (Lists (takes (num op)) w) := by
  by_cases h : 2 ≤ op ∧ op ≤ 7
  · exact refTakes_two op w h.1 h.2
  · exact refTakes_else op w h
theorem size_len (s : ByteArray) : s.data.toList.length = s.size := by simp
theorem empty_true (s : ByteArray) (h : s.size = 0) : s.toList.isEmpty = true := by
  have : s.data.toList = [] := List.length_eq_zero_iff.1 (by rw [size_len]; exact h)
  rw [ByteArray.toList_eq, this]; rfl
theorem empty_false (s : ByteArray) (h : 0 < s.size) : s.toList.isEmpty = false := by
  rw [ByteArray.toList_eq]
  cases e : s.data.toList with
  | nil => have := size_len s; rw [e] at this; simp at this; omega
  | cons => rfl
set_option maxHeartbeats 400000 in
theorem refFind_full (s : ByteArray) (w : World) (hs : 0 < s.size) :
    Calls Tryz.prog 115 #[.string s] w fun e w' => e = .returned (.tuple #[.int .i64 (find s).1, .int .i64 (find s).2]) ∧ Below w.heap.size w w' := by
  have hz := empty_false s hs
  go_enter Tryz.func115, Tryz.ntmps115
  go_wp2_with fail
  go_loopw [4] (fun o wr => ∃ k : Nat, 1 ≤ k ∧ k ≤ 30 ∧ o = .int .i64 k ∧ Below w.heap.size w wr ∧ Hid (Rest s k 0)) (fun o _ => 30 - (intOf o).toNat)
  case atStart => exact ⟨1, by omega, by omega, rfl, Below.refl _ _, rest_start s⟩
  case round =>
    obtain ⟨k, hk1, hk2, rfl, hB, HR⟩ := hrel
    replace hB := hide hB
    by_cases hlt : k < 30
    · have hd : decide ((k : Int) ≤ 29) = true := by simp; omega
      go_wp2_with fail
      go_loopw [5] (fun o wr => ∃ j : Nat, j ≤ 4 ∧ o = .int .i64 j ∧ Below w.heap.size w wr ∧ Hid (Rest s k j)) (fun o _ => 4 - (intOf o).toNat)
      case atStart => exact ⟨0, by omega, rfl, hB.out, HR⟩
      case round =>
        obtain ⟨j, hj, rfl, hB2, HR2⟩ := hrel
        replace hB2 := hide hB2
        by_cases hjt : j < 4
        · cases hm : may (k : Int) (j : Int)
          · have HN := hide (rest_miss HR2.out hk1 (by omega) hjt (by rw [hm]; rfl))
            replace hm := hide hm
            go_wp2_with fail
            refine (refMay_any _ _ _).mono ?_; rintro e w1 ⟨rfl, rfl⟩
            rw [hm.out]
            go_wp2_with fail
            go_roundw
            case rel => exact ⟨j + 1, by omega, by go_num, hB2.out, HN⟩
            case measure => simp [intOf]; omega
          · cases he : (iword (k : Int) (j : Int)).toList == s.toList
            · have HN := hide (rest_miss HR2.out hk1 (by omega) hjt (by rw [hm, he]; rfl))
              replace hm := hide hm
              go_wp2_with fail
              refine (refMay_any _ _ _).mono ?_; rintro e w1 ⟨rfl, rfl⟩
              rw [hm.out]
              go_wp2_with fail
              refine (refWordI_any _ _ _ _ _ _ _ _ _).mono ?_; rintro e w2 ⟨rfl, b2⟩
              go_wp2_with fail
              go_roundw
              case rel => exact ⟨j + 1, by omega, by go_num, below_step hB2.out b2, HN⟩
              case measure => simp [intOf]; omega
            · have HN := hide (rest_hit HR2.out hk1 (by omega) hjt hm he)
              replace hm := hide hm
              go_wp2_with fail
              refine (refMay_any _ _ _).mono ?_; rintro e w1 ⟨rfl, rfl⟩
              rw [hm.out]
              go_wp2_with fail
              refine (refWordI_any _ _ _ _ _ _ _ _ _).mono ?_; rintro e w2 ⟨rfl, b2⟩
              go_wp2_with fail
              go_ret2
              exact ⟨ret_pair HN.out rfl rfl, below_step hB2.out b2⟩
        · have : j = 4 := by omega
          subst this
          go_wp2_with fail
          go_roundw
          case rel => exact ⟨k + 1, by omega, by omega, by go_num, hB2.out, hide (rest_line HR2.out hk1)⟩
          case measure => simp [intOf]; omega
    · go_wp2_with fail
      go_ret2
      exact ⟨ret_pair (rest_end HR.out (by omega)) rfl rfl, hB.out⟩
theorem refFind_any (s : ByteArray) (w : World) :
    Calls Tryz.prog 115 #[.string s] w fun e w' => e = .returned (.tuple #[.int .i64 (find s).1, .int .i64 (find s).2]) ∧ Below w.heap.size w w' := by
  by_cases h : 0 < s.size
  · exact refFind_full s w h
  · have hz := empty_true s (by omega)
    have HF := hide (find_empty (s := s) (by omega))
    go_enter Tryz.func115, Tryz.ntmps115
    go_wp2_with fail
    go_ret2
    exact ⟨ret_pair HF.out rfl rfl, Below.refl _ _⟩
end Go.Proofs.YtahhbckccdigoaaGreatDoor.L5
namespace Go.Proofs.YtahhbckccdigoaaGreatDoor
open Go Go.RowKit
open G (Tok Er Ins Fun peek0 peek1 atOf)
theorem below_drewN {B : Nat} {a w : World} (h : Below B a w) (n : Nat) : Below B a (w.drewN n) := ⟨h.1, h.2, h.3, h.4, h.5⟩
/-- Is a type told by a text? -/
def tells (s : List UInt8) (t : Int) : Bool := (L5.letter t).toList == s
end Go.Proofs.YtahhbckccdigoaaGreatDoor
namespace Go.Proofs.YtahhbckccdigoaaGreatDoor
open Go Go.RowKit
open G (Tok Er Ins Fun peek0 peek1 atOf)
theorem Tryz.info3 : (Tryz.prog.info? 3).map (fun i => (i.zero, i.size, i.bytes)) = some (some (.int .i64 0), 1, 8) := by kernel_rfl
abbrev ints (l : List Int) : List Value := l.map (Value.int .i64)
/-- The cells of an instruction. -/
def insCells (x : Ins) (va vt : Value) : List Value := [.int .i64 x.1, .int .i64 x.2.1, .int .i64 x.2.2.1, .int .i64 x.2.2.2.1, va, vt, .string (bs x.2.2.2.2.2.2.1), .int .i64 x.2.2.2.2.2.2.2]
/-- The instruction x stands at block c, its lists at blocks from B on. -/
def InsAt (B c : Nat) (x : Ins) (w : World) : Prop :=
  ∃ va vt, w.heap[c]? = some (.cells (insCells x va vt).toArray 39 (0, 0)) ∧ w.ownsRow B 3 1 va x.2.2.2.2.1.length (ints x.2.2.2.2.1) ∧ w.ownsRow B 3 1 vt x.2.2.2.2.2.1.length (ints x.2.2.2.2.2.1) ∧
    (va.ownBlock = none ∨ va.ownBlock ≠ vt.ownBlock) ∧ B ≤ c
theorem InsAt.keep {B c : Nat} {x : Ins} {w w' : World} (h : InsAt B c x w) (hb : ∀ k, B ≤ k → k < w.heap.size → w'.heap[k]? = w.heap[k]?) : InsAt B c x w' := by
  obtain ⟨va, vt, h1, h2, h3, h4, h5⟩ := h
  have key : ∀ {v : Value} {n : Nat} {xs : List Value}, w.ownsRow B 3 1 v n xs → w'.ownsRow B 3 1 v n xs := by
    intro v n xs ho
    refine ⟨ho.1, ?_⟩
    rcases ho.2 with hn | ⟨g, cap, cur, hv2, hbb, hg, rest⟩
    · exact .inl hn
    · exact .inr ⟨g, cap, cur, hv2, hbb, (hb g hbb (Array.getElem?_eq_some_iff.1 hg).1).trans hg, rest⟩
  exact ⟨va, vt, (hb c h5 (Array.getElem?_eq_some_iff.1 h1).1).trans h1, key h2, key h3, h4, h5⟩
theorem InsAt.kp {B a c : Nat} {x : Ins} {w w' : World} (h : InsAt B c x w) (hk : Kp w.heap.size a w w') (ha : a < B) : InsAt B c x w' :=
  h.keep fun k h1 h2 => hk.2.2.2.2 k h2 (by omega)
theorem InsAt.step {B c : Nat} {x : Ins} {w w' : World} (h : InsAt B c x w) (hk : Below w.heap.size w w') : InsAt B c x w' := h.keep fun k _ h2 => hk.block k h2
theorem InsAt.not80 {B c : Nat} {x : Ins} {u w : World} (h : InsAt B c x w) : N80 u w c := .inr fun cs fz hc => by
  obtain ⟨va, vt, h1, _⟩ := h
  rw [h1] at hc
  simp at hc
theorem InsAt.lt {B c : Nat} {x : Ins} {w : World} (h : InsAt B c x w) : c < w.heap.size ∧ B ≤ c := by
  obtain ⟨va, vt, h1, h2, h3, h4, h5⟩ := h
  exact ⟨(Array.getElem?_eq_some_iff.1 h1).1, h5⟩
def addArg (x : Ins) (v : Int) : Ins := (x.1, x.2.1, x.2.2.1, x.2.2.2.1, x.2.2.2.2.1 ++ [v], x.2.2.2.2.2.1, x.2.2.2.2.2.2.1, x.2.2.2.2.2.2.2)
def addTo (x : Ins) (v : Int) : Ins := (x.1, x.2.1, x.2.2.1, x.2.2.2.1, x.2.2.2.2.1, x.2.2.2.2.2.1 ++ [v], x.2.2.2.2.2.2.1, x.2.2.2.2.2.2.2)
def setN (x : Ins) (v : Int) : Ins := (x.1, x.2.1, v, x.2.2.2.1, x.2.2.2.2.1, x.2.2.2.2.2.1, x.2.2.2.2.2.2.1, x.2.2.2.2.2.2.2)
def setName (x : Ins) (s : List UInt8) : Ins := (x.1, x.2.1, x.2.2.1, x.2.2.2.1, x.2.2.2.2.1, x.2.2.2.2.2.1, s, x.2.2.2.2.2.2.2)
/-- A word is read, and something becomes of it and of the instruction. -/
def byWord {α : Type} (x : Ins) (f : Ins → α → Ins) (r : Except Er (α × List Tok)) : Except Er (Ins × List Tok) := G.andThen r fun v l => .ok (f x v, l)
theorem Kp.cell {B a : Nat} {w w' : World} (h : Kp B a w w') {p : Addr} (hp : p.block < B) (ha : p.block ≠ a) : w'.cell? p = w.cell? p := World.cell?_of_block (w := w) (h.2.2.2.2 _ hp ha)
theorem Kp.frozen {B a : Nat} {w w' : World} (h : Kp B a w w') {p : Addr} (hp : p.block < B) (ha : p.block ≠ a) : w'.frozen? p = w.frozen? p := World.frozen?_of_block (w := w) (h.2.2.2.2 _ hp ha)
/-- A cell that may be written. -/
def Cel (w : World) (c i : Nat) (v : Value) : Prop := w.cell? ⟨c, i, none⟩ = some v ∧ w.frozen? ⟨c, i, none⟩ = false
theorem Cel.kp {B a : Nat} {w w' : World} (k : Kp B a w w') {c i : Nat} {v : Value} (hp : c < B) (ha : c ≠ a) (h1 : w.cell? ⟨c, i, none⟩ = some v) (h2 : w.frozen? ⟨c, i, none⟩ = false) : w'.cell? ⟨c, i, none⟩ = some v ∧ w'.frozen? ⟨c, i, none⟩ = false :=
  ⟨(k.cell (p := ⟨c, i, none⟩) hp ha).trans h1, (k.frozen (p := ⟨c, i, none⟩) hp ha).trans h2⟩
theorem Cel.below {B : Nat} {w w' : World} (k : Below B w w') {c i : Nat} {v : Value} (hp : c < B) (h1 : w.cell? ⟨c, i, none⟩ = some v) (h2 : w.frozen? ⟨c, i, none⟩ = false) : w'.cell? ⟨c, i, none⟩ = some v ∧ w'.frozen? ⟨c, i, none⟩ = false :=
  ⟨(k.cell (p := ⟨c, i, none⟩) hp).trans h1, (k.frozen (p := ⟨c, i, none⟩) hp).trans h2⟩
theorem Cel.grown {w w' : World} {row : Option Nat} (k : w.grownBy w' row) {c i : Nat} {v : Value} (hp : c < w.heap.size) (hr : row ≠ some c) (h1 : w.cell? ⟨c, i, none⟩ = some v) (h2 : w.frozen? ⟨c, i, none⟩ = false) : w'.cell? ⟨c, i, none⟩ = some v ∧ w'.frozen? ⟨c, i, none⟩ = false :=
  ⟨(k.cell_far ⟨c, i, none⟩ hp (Ne.symm hr)).trans h1, (k.frozen_far ⟨c, i, none⟩ hp (Ne.symm hr)).trans h2⟩
theorem Rdr.drew {B a : Nat} {L : List Tok} {E : Int} {n : Nat} {l : List Tok} {w : World} (h : Rdr B a L E n l w) : Rdr B a L E n l w.drew := h
theorem InsAt.drew {B c : Nat} {x : Ins} {w : World} (h : InsAt B c x w) : InsAt B c x w.drew := h
theorem Kp.undrew {B a : Nat} {w w' : World} (h : Kp B a w.drew w') : Kp B a w w' := h
theorem one_cell {w1 : World} {a : Value} {t : TypeId} : ∀ j u, [a][j]? = some u → (w1.alloc (.cells #[a] t)).cell? ((⟨w1.heap.size, 0, none⟩ : Addr).add j) = some u := by
  intro j u hj
  match j, hj with
  | 0, hj => simp at hj; subst hj; simp [Addr.add]
theorem one_one {a : Int} : ∀ u ∈ [Value.int .i64 a], u.oneCell' = true := by
  intro u hu
  simp only [List.mem_singleton] at hu
  subst hu; rfl
theorem Kp.andBelow {a : Nat} {w w1 w2 : World} (h : Kp w.heap.size a w w1) (hb : Below w1.heap.size w1 w2) : Kp w.heap.size a w w2 := h.trans (Kp.of_belowW hb h.size)
theorem step_done {P : Program} {Q : Prop} (h : Q) : wpAny P .any #[] (fun _ _ _ => True) 0 #[] { tmps := #[], defers := [] } default → Q := fun _ => h
theorem own_setCell {w : World} {b e s n : Nat} {v : Value} {xs : List Value} (h : w.ownsRow b e s v n xs) {p : Addr} (hp : v.ownBlock ≠ some p.block) (u : Value) : (w.setCell p u).ownsRow b e s v n xs := by
  refine ⟨h.1, ?_⟩
  rcases h.2 with hn | ⟨g, cap, cur, hv2, hbb, hg, rest⟩
  · exact .inl hn
  · refine .inr ⟨g, cap, cur, hv2, hbb, ?_, rest⟩
    rw [Below.heap_setCell _ _ _ _ (fun e => hp (by rw [hv2, ← e]; rfl))]
    exact hg
theorem InsAt.arg {B c gg cap : Nat} {x : Ins} {k : Int} {va : Value} {w w3 : World} (h : InsAt B c x w) (hc : w.cell? ⟨c, 4, none⟩ = some va)
    (hown : w3.ownsRow B 3 1 (.slice (some ⟨gg, 0, none⟩) (x.2.2.2.2.1.length + 1) cap) (x.2.2.2.2.1.length + 1) (ints x.2.2.2.2.1 ++ [.int .i64 k])) (hg : w.grownBy w3 va.ownBlock) (hat : va.ownBlock = some gg ∨ gg = w.heap.size) :
    InsAt B c (addArg x k) (w3.setCell ⟨c, 4, none⟩ (.slice (some ⟨gg, 0, none⟩) (x.2.2.2.2.1.length + 1) cap)) := by
  obtain ⟨va', vt, h1, h2, h3, h4, h5⟩ := h
  have e : va' = va := by
    have : w.cell? ⟨c, 4, none⟩ = some va' := by simp [World.cell?, h1, insCells]
    rw [hc] at this; exact (Option.some.inj this).symm
  subst e
  have hcl : c < w.heap.size := (Array.getElem?_eq_some_iff.1 h1).1
  have n1 : va'.ownBlock ≠ some c := own_ne h2 h1 (by decide)
  have n2 : vt.ownBlock ≠ some c := own_ne h3 h1 (by decide)
  have h1' : w3.heap[c]? = some (.cells (insCells x va' vt).toArray 39 (0, 0)) := (hg.block c hcl (fun e => n1 e.symm)).trans h1
  have h3' : w3.ownsRow B 3 1 vt x.2.2.2.2.2.1.length (ints x.2.2.2.2.2.1) := h3.kept hg (by
    rcases h4 with h4 | h4
    · rw [h4]; cases vt.ownBlock <;> simp
    · exact .inr (Ne.symm h4))
  have n3 : (Value.slice (some ⟨gg, 0, none⟩) (x.2.2.2.2.1.length + 1) cap).ownBlock ≠ some c := own_ne hown h1' (by decide)
  refine ⟨_, vt, (heap_setCell_same w3 c 4 _ 39 _ h1').trans rfl, ?_, own_setCell h3' n2 _, ?_, h5⟩
  · have := own_setCell hown (p := ⟨c, 4, none⟩) n3 (.slice (some ⟨gg, 0, none⟩) (x.2.2.2.2.1.length + 1) cap)
    simpa [addArg] using this
  · refine .inr fun e => ?_
    have e : some gg = vt.ownBlock := e
    rcases hat with hat | hat
    · rcases h4 with h4 | h4
      · rw [h4] at hat; cases hat
      · exact h4 (hat.trans e)
    · have := (h3.lt gg e.symm).2
      omega
theorem InsAt.to {B c gg cap : Nat} {x : Ins} {k : Int} {vt : Value} {w w3 : World} (h : InsAt B c x w) (hc : w.cell? ⟨c, 5, none⟩ = some vt)
    (hown : w3.ownsRow B 3 1 (.slice (some ⟨gg, 0, none⟩) (x.2.2.2.2.2.1.length + 1) cap) (x.2.2.2.2.2.1.length + 1) (ints x.2.2.2.2.2.1 ++ [.int .i64 k])) (hg : w.grownBy w3 vt.ownBlock) (hat : vt.ownBlock = some gg ∨ gg = w.heap.size) :
    InsAt B c (addTo x k) (w3.setCell ⟨c, 5, none⟩ (.slice (some ⟨gg, 0, none⟩) (x.2.2.2.2.2.1.length + 1) cap)) := by
  obtain ⟨va, vt', h1, h2, h3, h4, h5⟩ := h
  have e : vt' = vt := by
    have : w.cell? ⟨c, 5, none⟩ = some vt' := by simp [World.cell?, h1, insCells]
    rw [hc] at this; exact (Option.some.inj this).symm
  subst e
  have hcl : c < w.heap.size := (Array.getElem?_eq_some_iff.1 h1).1
  have n1 : va.ownBlock ≠ some c := own_ne h2 h1 (by decide)
  have n2 : vt'.ownBlock ≠ some c := own_ne h3 h1 (by decide)
  have h1' : w3.heap[c]? = some (.cells (insCells x va vt').toArray 39 (0, 0)) := (hg.block c hcl (fun e => n2 e.symm)).trans h1
  have h2' : w3.ownsRow B 3 1 va x.2.2.2.2.1.length (ints x.2.2.2.2.1) := h2.kept hg h4
  have n3 : (Value.slice (some ⟨gg, 0, none⟩) (x.2.2.2.2.2.1.length + 1) cap).ownBlock ≠ some c := own_ne hown h1' (by decide)
  refine ⟨va, _, (heap_setCell_same w3 c 5 _ 39 _ h1').trans rfl, own_setCell h2' n1 _, ?_, ?_, h5⟩
  · have := own_setCell hown (p := ⟨c, 5, none⟩) n3 (.slice (some ⟨gg, 0, none⟩) (x.2.2.2.2.2.1.length + 1) cap)
    simpa [addTo] using this
  · cases hv : va.ownBlock with
    | none => exact .inl rfl
    | some q =>
      refine .inr fun e => ?_
      have e : some q = some gg := e
      rcases hat with hat | hat
      · rcases h4 with h4 | h4
        · rw [h4] at hv; cases hv
        · exact h4 (by rw [hv, e, hat])
      · have := (h2.lt q hv).2
        cases e
        omega
theorem Rdr.grown {B a : Nat} {L : List Tok} {E : Int} {n : Nat} {l : List Tok} {w w' : World} {row : Option Nat} (h : Rdr B a L E n l w) (hg : w.grownBy w' row) (hr : ∀ k, row = some k → B ≤ k) : Rdr B a L E n l w' :=
  h.keep hg.size fun k hk => hg.block k (Nat.lt_of_lt_of_le hk h.size) (fun e => by have := hr k e.symm; omega)
theorem Rdr.set {B a : Nat} {L : List Tok} {E : Int} {n : Nat} {l : List Tok} {w : World} (h : Rdr B a L E n l w) {p : Addr} (hp : B ≤ p.block) (v : Value) : Rdr B a L E n l (w.setCell p v) :=
  h.keep (by simp [World.setCell]) fun k hk => Below.heap_setCell _ _ _ _ (by omega)
end Go.Proofs.YtahhbckccdigoaaGreatDoor
namespace Go.Proofs.YtahhbckccdigoaaGreatDoor
open Go Go.RowKit
open G (Tok Er Ins Fun peek0 peek1 atOf)
/-- All blocks but a are as they were. -/
def Kr (a : Nat) (w w' : World) : Prop := w'.os = w.os ∧ w'.tape = w.tape ∧ w'.output = w.output ∧ w.heap.size ≤ w'.heap.size ∧ ∀ k, k < w.heap.size → k ≠ a → w'.heap[k]? = w.heap[k]?
theorem Kr.refl (a : Nat) (w : World) : Kr a w w := ⟨rfl, rfl, rfl, Nat.le_refl _, fun _ _ _ => rfl⟩
theorem Kr.trans {a : Nat} {u v w : World} (h : Kr a u v) (k : Kr a v w) : Kr a u w :=
  ⟨k.1.trans h.1, k.2.1.trans h.2.1, k.2.2.1.trans h.2.2.1, Nat.le_trans h.2.2.2.1 k.2.2.2.1, fun i h1 h2 => (k.2.2.2.2 i (Nat.lt_of_lt_of_le h1 h.2.2.2.1) h2).trans (h.2.2.2.2 i h1 h2)⟩
theorem Kr.of_below {a : Nat} {u v : World} (h : Below u.heap.size u v) : Kr a u v := ⟨h.os, h.tape, h.output, h.size, fun i h1 _ => h.block i h1⟩
theorem Kr.size {a : Nat} {u v : World} (h : Kr a u v) : u.heap.size ≤ v.heap.size := h.2.2.2.1
theorem Kr.step {a : Nat} {u v w : World} (h : Kr a u v) (k : Below v.heap.size v w) : Kr a u w := h.trans (Kr.of_below k)
theorem Kr.below {a B : Nat} {u v : World} (h : Kr a u v) (ha : B ≤ a) (hB : B ≤ u.heap.size) : Below B u v := ⟨h.1, h.2.1, h.2.2.1, h.2.2.2.1, fun i h1 => h.2.2.2.2 i (by omega) (by omega)⟩
theorem Kr.set {a i : Nat} {u w : World} (h : Kr a u w) (x : Value) : Kr a u (w.setCell ⟨a, i, none⟩ x) := by
  have hb := (Below.refl 0 w).setCell (p := ⟨a, i, none⟩) (Nat.zero_le a) x
  exact h.trans ⟨hb.os, hb.tape, hb.output, hb.size, fun k _ h2 => Below.heap_setCell w ⟨a, i, none⟩ x k h2⟩
/-- The reference's reader at block a, where nothing was wrong; l are the words that are left. -/
def RR (a : Nat) (L : List Tok) (E : Int) (n : Nat) (l : List Tok) (w : World) : Prop :=
  ∃ v, w.heap[a]? = some (.cells #[v, .int .i64 ((L.length - l.length : Nat) : Int), .int .i64 E, .int .i64 (n : Int), .int .i64 0, .int .i64 0] 80 (0, 0)) ∧ w.ownsRow 0 96 2 v L.length (cellsK L) ∧ l <:+ L ∧ (L.length ≤ 131072 ∧ ∀ t ∈ L, t.1.length ≤ 65536) ∧ n ≤ 4096
theorem RR.lt {a : Nat} {L : List Tok} {E : Int} {n : Nat} {l : List Tok} {w : World} (h : RR a L E n l w) : a < w.heap.size := by
  obtain ⟨v, h1, _⟩ := h; exact (Array.getElem?_eq_some_iff.1 h1).1
theorem RR.keep {a : Nat} {L : List Tok} {E : Int} {n : Nat} {l : List Tok} {w w' : World} (h : RR a L E n l w) (hb : ∀ k, k < w.heap.size → w'.heap[k]? = w.heap[k]?) : RR a L E n l w' := by
  obtain ⟨v, h1, h2, h3⟩ := h
  refine ⟨v, (hb a (Array.getElem?_eq_some_iff.1 h1).1).trans h1, ⟨h2.1, ?_⟩, h3⟩
  rcases h2.2 with hn | ⟨g, cap, cur, hv2, hbb, hg, rest⟩
  · exact .inl hn
  · exact .inr ⟨g, cap, cur, hv2, hbb, (hb g (Array.getElem?_eq_some_iff.1 hg).1).trans hg, rest⟩
theorem RR.below {a : Nat} {L : List Tok} {E : Int} {n : Nat} {l : List Tok} {w w' : World} (h : RR a L E n l w) (b : Below w.heap.size w w') : RR a L E n l w' := h.keep fun k hk => b.block k hk
theorem RR.short {a : Nat} {L : List Tok} {E : Int} {n : Nat} {l : List Tok} {w : World} (h : RR a L E n l w) : (peek0 l).length ≤ 65536 ∧ (peek1 l).length ≤ 65536 := by
  obtain ⟨v, h1, h2, h5, h6, h7⟩ := h
  refine ⟨?_, ?_⟩
  · cases l with
    | nil => simp [peek0]
    | cons t r => exact h6.2 t (h5.subset (by simp))
  · match l, h5 with
    | [], _ => simp [peek1]
    | [_], _ => simp [peek1]
    | _ :: t :: r, h5 => exact h6.2 t (h5.subset (by simp))
theorem RR.cells {a : Nat} {L : List Tok} {E : Int} {n : Nat} {l : List Tok} {w : World} (h : RR a L E n l w) :
    ∃ ao cap, w.cell? ⟨a, 0, none⟩ = some (.slice ao L.length cap) ∧ w.cell? ⟨a, 1, none⟩ = some (.int .i64 ((L.length - l.length : Nat) : Int)) ∧ w.cell? ⟨a, 2, none⟩ = some (.int .i64 E) ∧ w.cell? ⟨a, 3, none⟩ = some (.int .i64 (n : Int)) ∧ w.cell? ⟨a, 4, none⟩ = some (.int .i64 0) ∧ w.cell? ⟨a, 5, none⟩ = some (.int .i64 0) ∧
      (∀ j, w.frozen? ⟨a, j, none⟩ = false) ∧ (L = [] ∨ ∃ g, ao = some ⟨g, 0, none⟩ ∧ ∀ j t, L[j]? = some t → w.cell? ⟨g, j * 2, none⟩ = some (.string (bs t.1)) ∧ w.cell? ⟨g, j * 2 + 1, none⟩ = some (.int .i64 t.2)) := by
  obtain ⟨v, h1, h2, h5, h6, h7⟩ := h
  rcases h2.2 with ⟨hv, hn⟩ | ⟨g, cap, cur, hv2, hbb, hg, hc1, hc2, hc3, hc4⟩
  · subst hv
    have e : L = [] := List.length_eq_zero_iff.1 hn
    subst e
    exact ⟨none, 0, by simp [World.cell?, h1], by simp [World.cell?, h1], by simp [World.cell?, h1], by simp [World.cell?, h1], by simp [World.cell?, h1], by simp [World.cell?, h1], fun j => by simp [World.frozen?, h1], .inl rfl⟩
  · subst hv2
    refine ⟨some ⟨g, 0, none⟩, cap, by simp [World.cell?, h1], by simp [World.cell?, h1], by simp [World.cell?, h1], by simp [World.cell?, h1], by simp [World.cell?, h1], by simp [World.cell?, h1], fun j => by simp [World.frozen?, h1], .inr ⟨g, rfl, fun j t hj => ?_⟩⟩
    have hc := h2.cells (g := g) rfl
    obtain ⟨k1, k2⟩ := cellsK_at L j t hj
    have e1 := hc _ _ k1
    have e2 := hc _ _ k2
    rw [Addr.add_lit, Nat.zero_add, Nat.mul_comm] at e1 e2
    exact ⟨e1, e2⟩
theorem RR.eat {a : Nat} {L : List Tok} {E : Int} {n : Nat} {l : List Tok} {w : World} (h : RR a L E n l w) (hl : l ≠ []) : RR a L E n l.tail (w.setCell ⟨a, 1, none⟩ (.int .i64 (((L.length - l.length : Nat) : Int) + 1))) := by
  obtain ⟨v, h1, h2, h5, h6, h7⟩ := h
  refine ⟨v, ?_, own_setCell h2 (own_ne h2 h1 (by decide)) _, (List.tail_suffix l).trans h5, h6, h7⟩
  rw [heap_setCell_same w a 1 _ 80 _ h1]
  have e : ((L.length - l.length : Nat) : Int) + 1 = ((L.length - l.tail.length : Nat) : Int) := by
    have := h5.length_le
    cases l with
    | nil => exact absurd rfl hl
    | cons t r => simp at *; omega
  rw [e]; rfl
theorem RR.kr {a : Nat} {w : World} (i : Nat) (x : Value) : Kr a w (w.setCell ⟨a, i, none⟩ x) := (Kr.refl a w).set x
/-- A word so far ahead. -/
def pk (i : Nat) (l : List Tok) : List UInt8 := match l[i]? with
  | some t => t.1
  | none => []
theorem pk0 (l : List Tok) : pk 0 l = peek0 l := by cases l <;> rfl
theorem pk1 (l : List Tok) : pk 1 l = peek1 l := by
  match l with
  | [] => rfl
  | [_] => rfl
  | _ :: t :: r => rfl
set_option maxHeartbeats 1000000 in
set_option maxRecDepth 20000 in
theorem rpeek (i : Nat) {a : Nat} {L : List Tok} {E : Int} {n : Nat} {l : List Tok} (w : World) (h : RR a L E n l w) (hi : i ≤ 1) :
    Calls Tryz.prog 92 #[.pointer (some ⟨a, 0, none⟩), .int .i64 i] w fun e w' => e = .returned (.string (bs (pk i l))) ∧ Below w.heap.size w w' := by
  obtain ⟨ao, cap, c0, c1, c2, c3, c4, c5, fz, hL⟩ := h.cells
  obtain ⟨v, h1, h2, h5, h6, h7⟩ := h
  have hLL := h6.1
  have hll := h5.length_le
  by_cases hlt : L.length - l.length + i < L.length
  · obtain ⟨t, ht⟩ : ∃ t, L[L.length - l.length + i]? = some t := ⟨_, List.getElem?_eq_getElem hlt⟩
    have HP : Hid (bs t.1 = bs (pk i l)) := hide (by
      have e := Rdr.word h5 i
      rw [ht] at e
      unfold pk; rw [← e])
    rcases hL with hL | ⟨g, rfl, hg⟩
    · subst hL; simp at hlt
    have hc := (hg _ t ht).1
    have hlt' : (((L.length - l.length : Nat) : Int) + (i : Int)) < L.length := by omega
    have hge : ¬ (L.length : Int) ≤ ((L.length - l.length : Nat) : Int) + (i : Int) := by omega
    have hidx : ((L.length - l.length : Nat) : Int) + (i : Int) = ((L.length - l.length + i : Nat) : Int) := by omega
    clear hg ht h1 h2 h5 h6 fz c2 c3 c5
    generalize L.length - l.length = q at *
    obtain ⟨m, hm⟩ : ∃ m : Nat, m = q + i := ⟨_, rfl⟩
    have hw : IntKind.i64.wrap ((q : Int) + (i : Int)) = (m : Int) := by rw [IntWalk.i64_in _ ⟨by omega, by omega⟩]; omega
    have hg1 : decide ((L.length : Int) ≤ (m : Int)) = false := by simp; omega
    have hm1 : (m : Int) < L.length := by omega
    have hm0 : (0 : Int) ≤ m := by omega
    rw [← hm] at hc
    clear hge hlt hm hlt' hidx
    go_enter Tryz.func92, Tryz.ntmps92
    go_wp2_with fail
    go_quiet (fail)
    go_wp2_with fail
    go_quiet (fail)
    go_wp2_with fail
    go_ret
    exact ⟨L5.ret_str HP.out, ⟨rfl, rfl, rfl, Nat.le_refl _, fun _ _ => rfl⟩⟩
  · have HP : Hid (bs [] = bs (pk i l)) := hide (by
      have e := Rdr.word h5 i
      rw [List.getElem?_eq_none (by omega)] at e
      unfold pk; rw [← e])
    have hge : (L.length : Int) ≤ ((L.length - l.length : Nat) : Int) + (i : Int) := by omega
    clear h1 h2 h5 h6 hL fz c2 c3 c5
    have hq : L.length - l.length ≤ L.length := by omega
    generalize L.length - l.length = q at *
    obtain ⟨m, hm⟩ : ∃ m : Nat, m = q + i := ⟨_, rfl⟩
    have hw : IntKind.i64.wrap ((q : Int) + (i : Int)) = (m : Int) := by rw [IntWalk.i64_in _ ⟨by omega, by omega⟩]; omega
    have hg1 : decide ((L.length : Int) ≤ (m : Int)) = true := by simp; omega
    have hg2 : (L.length : Int) ≤ (m : Int) := by omega
    have hg3 : L.length ≤ m := by omega
    clear hge hlt hm
    go_enter Tryz.func92, Tryz.ntmps92
    go_wp2_with fail
    go_quiet (fail)
    go_wp2_with fail
    go_ret
    exact ⟨L5.ret_str HP.out, ⟨rfl, rfl, rfl, Nat.le_refl _, fun _ _ => rfl⟩⟩
end Go.Proofs.YtahhbckccdigoaaGreatDoor
