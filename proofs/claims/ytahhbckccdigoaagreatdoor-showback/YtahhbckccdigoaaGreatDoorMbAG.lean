/- More contracts of elder functions, carried over to this dump. -/
import Derived.Test.YtahhbckccdigoaaGreatDoorMbAD
import Derived.Test.YtahhbckccdigoaaGreatDoorMbAE
import Derived.Laws.BitsLemmas
import Derived.Laws.BitsAllLaws
import Derived.RowKit
import Derived.Test.YtahhbckccdigoaaGreatDoorProg
import Derived.WalkKit
import Derived.WalkSpells
import Derived.WalkSmall
import Derived.WalkLawsBesides
import Derived.KernelRfl
import Derived.Below
import Derived.Deep.QuietTactic
import Derived.BigQuiet
import Derived.RegionTactic
import Derived.BigRegion
import Derived.Lib.SmallJoins
import Derived.Deep.Cut
import Derived.Laws.AppendOwn
import Derived.OwnWalk
import Derived.Lib.OthersKept
set_option maxHeartbeats 8000000
set_option maxRecDepth 20000
namespace Go.Proofs.YtahhbckccdigoaaGreatDoor
open Go
theorem mkF (fn : Fn) (first cap : Array Value) (w : World) : (Instr.makeFunc fn first cap).run Tryz.prog w = .ok (.func fn first cap) w := rfl
end Go.Proofs.YtahhbckccdigoaaGreatDoor
namespace Go.Proofs.YtahhbckccdigoaaGreatDoor.L3
open Go
open Go Go.RowKit
theorem pw_succ (k : Nat) : pw (k + 1) = pw k * 2 := by
  unfold pw; rw [Nat.pow_succ]; simp
theorem pw_pos (k : Nat) : 1 <= pw k := by
  have : 0 < 2 ^ k := Nat.two_pow_pos k
  unfold pw; omega
theorem pw_mono {i j : Nat} (h : i <= j) : pw i <= pw j := by
  have : 2 ^ i <= 2 ^ j := Nat.pow_le_pow_right (by decide) h
  unfold pw; omega
theorem pw_le {k : Nat} (h : k <= 16) : pw k <= 65536 := pw_mono (j := 16) h
theorem int_val {k : IntKind} {a b : Int} (h : a = b) : Value.int k a = .int k b := congrArg (Value.int k) h
theorem power_any (n : Nat) (w : World) (hn : n <= 16) :
    Calls Tryz.prog 76 #[.int .i64 n] w fun e w' => e = .returned (.int .i64 (pw n)) /\ w' = w := by
  go_enter Tryz.func76, Tryz.ntmps76
  go_wp2
  go_loop [3, 4] (fun o i => ∃ k : Nat, k <= n /\ i = .int .i64 k /\ o = .int .i64 (pw k)) (fun _ i => n - (intOf i).toNat)
  case atStart => exact ⟨0, Nat.zero_le _, rfl, rfl⟩
  case round =>
    obtain ⟨k, hk, rfl, rfl⟩ := hrel
    have h1 := pw_pos k
    have h2 := pw_le (k := k) (by omega)
    by_cases hlt : k < n
    . go_wp2
      go_round
      case rel => exact ⟨k + 1, by omega, by go_num, int_val (pw_succ k).symm⟩
      case measure => simp [intOf]; omega
    . go_wp2
      go_ret
      have : k = n := by omega
      subst this
      exact ⟨rfl, rfl⟩
theorem mask_le (s : ByteArray) (k : Nat) (h : k < 16) : mask s.data.toList k <= 65535 := by
  have := mask_lt s.data.toList k
  have h2 : 2 ^ k <= 2 ^ 16 := Nat.pow_le_pow_right (by decide) (by omega)
  have : (2 : Nat) ^ 16 = 65536 := by decide
  omega
theorem refParse_point (s : ByteArray) (w : World) (h : s.data.toList = [46]) :
    Calls Tryz.prog 50 #[.string s] w fun e w' => e = .returned (.tuple #[.agg #[.int .i64 0, .int .i64 0], .int .i64 0]) /\ Below w.heap.size w w' := by
  have hp := point_true s h
  clear h
  go_enter Tryz.func50, Tryz.ntmps50
  go_wp2_with fail
  exact bodyPost_ret (v := .tuple #[.agg #[.int .i64 0, .int .i64 0], .int .i64 0]) (by simp [results, Tryz.results50, go_sem]) rfl ⟨rfl, below_box _ _⟩
theorem refParse_empty (s : ByteArray) (w : World) (h : s.size = 0) :
    Calls Tryz.prog 50 #[.string s] w fun e w' => e = .returned (.tuple #[.agg #[.int .i64 0, .int .i64 0], .int .i64 16]) /\ Below w.heap.size w w' := by
  have hp := point_false s (fun e => by have := size_len s; rw [e] at this; simp at this; omega)
  have he := empty_true s h
  clear h
  go_enter Tryz.func50, Tryz.ntmps50
  go_wp2_with fail
  exact bodyPost_ret (v := .tuple #[.agg #[.int .i64 0, .int .i64 0], .int .i64 16]) (by simp [results, Tryz.results50, go_sem]) rfl ⟨rfl, below_box _ _⟩
theorem refParse_long (s : ByteArray) (w : World) (h : 16 < s.size) :
    Calls Tryz.prog 50 #[.string s] w fun e w' => e = .returned (.tuple #[.agg #[.int .i64 0, .int .i64 0], .int .i64 16]) /\ Below w.heap.size w w' := by
  have hp := point_false s (fun e => by have := size_len s; rw [e] at this; simp at this; omega)
  have he := empty_false s (by omega)
  go_enter Tryz.func50, Tryz.ntmps50
  go_wp2_with fail
  exact bodyPost_ret (v := .tuple #[.agg #[.int .i64 0, .int .i64 0], .int .i64 16]) (by simp [results, Tryz.results50, go_sem]) rfl ⟨rfl, below_box _ _⟩
theorem refParse_letters (s : ByteArray) (w : World) (h0 : 0 < s.size) (h1 : s.size <= 16) (hs : s.data.toList ≠ [46]) :
    Calls Tryz.prog 50 #[.string s] w fun e w' => e = .returned (readL s.data.toList) /\ Below w.heap.size w w' := by
  have hp := point_false s hs
  have he := empty_false s h0
  clear hs
  go_enter Tryz.func50, Tryz.ntmps50
  go_wp2_with fail
  go_loop [4, 5] (fun m i => ∃ k : Nat, k <= s.size /\ i = .int .i64 k /\ m = .int .i64 (mask s.data.toList k) /\ Upto s k) (fun _ i => s.size - (intOf i).toNat)
  case atStart => exact ⟨0, Nat.zero_le _, rfl, rfl, upto_zero s⟩
  case round =>
    obtain ⟨k, hk, rfl, rfl, HU⟩ := hrel
    have HU := hide HU
    by_cases hlt : k < s.size
    . have hlt' : (k : Int) < s.size := by omega
      by_cases hc : (s[k].toNat : Int) = 105
      . have HM := hide (mask_i s k hlt (by omega))
        go_wp2_with fail
        go_round
        case rel => exact ⟨k + 1, by omega, by go_num, by rw [HM.out], upto_succ HU.out hlt (.inl hc)⟩
        case measure => simp [intOf]; omega
      . by_cases hc2 : (s[k].toNat : Int) = 112
        . have HM := hide (mask_p s k hlt hc2)
          have hb1 := mask_le s k (by omega)
          have hb2 := pw_le (k := k) (by omega)
          have hb3 := pw_pos k
          go_wp2_with fail
          refine (power_any k _ (by omega)).mono ?_; rintro e w1 ⟨rfl, rfl⟩
          go_wp2_with fail
          go_round
          case rel => exact ⟨k + 1, by omega, by go_num, int_val (by rw [HM.out]; unfold pw; omega), upto_succ HU.out hlt (.inr hc2)⟩
          case measure => simp [intOf]; omega
        . have HM := hide (readL_no hlt hc hc2)
          have n1 : ((s[k].toNat : Int) != 105) = true := by simpa using hc
          have n2 : ((s[k].toNat : Int) != 112) = true := by simpa using hc2
          go_wp2_with fail
          exact bodyPost_ret (v := .tuple #[.agg #[.int .i64 0, .int .i64 0], .int .i64 16]) (by simp [results, Tryz.results50, go_sem]) rfl ⟨by rw [HM.out], below_box _ _⟩
    . have : k = s.size := by omega
      subst this
      have HM := hide (readL_yes HU.out)
      go_wp2_with fail
      exact bodyPost_ret (v := .tuple #[.agg #[.int .i64 s.size, .int .i64 (mask s.data.toList s.size)], .int .i64 0]) (by simp [results, Tryz.results50, go_sem]) rfl ⟨by rw [HM.out], below_box _ _⟩
theorem refParse_all (s : ByteArray) (w : World) :
    Calls Tryz.prog 50 #[.string s] w fun e w' => e = .returned (readS s) /\ Below w.heap.size w w' := by
  unfold readS
  by_cases hp : s.data.toList = [46]
  . rw [if_pos hp]; exact refParse_point s w hp
  rw [if_neg hp]
  by_cases h0 : s.size = 0
  . rw [if_pos (.inl h0)]; exact refParse_empty s w h0
  by_cases h1 : 16 < s.size
  . rw [if_pos (.inr h1)]; exact refParse_long s w h1
  rw [if_neg (by omega)]; exact refParse_letters s w (by omega) (by omega) hp
end Go.Proofs.YtahhbckccdigoaaGreatDoor.L3
namespace Go.Proofs.YtahhbckccdigoaaGreatDoor.L5
open Go
open Go Go.RowKit
theorem refLetter_any (t : Int) (w : World) : Calls Tryz.prog 29 #[.int .i64 t] w fun e w' => e = .returned (.string (letter t)) /\ w' = w := by
  by_cases h1 : t = 1
  . subst h1; go_enter Tryz.func29, Tryz.ntmps29; go_wp2; go_ret; exact ⟨rfl, rfl⟩
  by_cases h2 : t = 2
  . subst h2; go_enter Tryz.func29, Tryz.ntmps29; go_wp2; go_ret; exact ⟨rfl, rfl⟩
  by_cases h3 : t = 3
  . subst h3; go_enter Tryz.func29, Tryz.ntmps29; go_wp2; go_ret; exact ⟨rfl, rfl⟩
  have HL : Hid (letter t = ⟨#[110]⟩) := hide (by simp [letter, h1, h2, h3])
  go_enter Tryz.func29, Tryz.ntmps29
  go_wp2
  go_ret
  exact ⟨ret_str HL.out.symm, rfl⟩
theorem refMay_any (op t : Int) (w : World) : Calls Tryz.prog 47 #[.int .i64 op, .int .i64 t] w fun e w' => e = .returned (.bool (may op t)) /\ w' = w := by
  by_cases h1 : op = 20
  . subst h1
    have HL : Hid (may 20 t = decide (t = 1 \/ t = 2 \/ t = 3)) := hide rfl
    go_enter Tryz.func47, Tryz.ntmps47
    go_wp2
    all_goals (go_ret; refine ⟨ret_bool ?_, rfl⟩; rw [HL.out, Bool.eq_iff_iff]; simp; try omega)
  by_cases h2 : op = 21
  . subst h2
    have HL : Hid (may 21 t = decide (t = 0 \/ t = 1 \/ t = 2)) := hide rfl
    go_enter Tryz.func47, Tryz.ntmps47
    go_wp2
    all_goals (go_ret; refine ⟨ret_bool ?_, rfl⟩; rw [HL.out, Bool.eq_iff_iff]; simp; try omega)
  by_cases h3 : op = 24
  . subst h3
    have HL : Hid (may 24 t = decide (t = 2 \/ t = 3)) := hide rfl
    go_enter Tryz.func47, Tryz.ntmps47
    go_wp2
    all_goals (go_ret; refine ⟨ret_bool ?_, rfl⟩; rw [HL.out, Bool.eq_iff_iff]; simp; try omega)
  have HL : Hid (may op t = decide (t = 0)) := hide (by simp [may, h1, h2, h3])
  go_enter Tryz.func47, Tryz.ntmps47
  go_wp2
  all_goals (go_ret; refine ⟨ret_bool ?_, rfl⟩; rw [HL.out, Bool.eq_iff_iff]; simp; try omega)
theorem new_list (l : List Int) (w : World) (t : TypeId) : ∀ i, i < l.length -> (w.alloc (.cells (l.map (Value.int .i64)).toArray t)).cell? ⟨w.heap.size, i, none⟩ = some (.int .i64 (nth l i)) := by
  intro i hi
  rw [Joins.cell_alloc_mark_at _ _ _ _ _ _ rfl]
  simp [nth, hi]
def wordsA : Array Value := ((List.range 30).map (fun k => Value.string (word k))).toArray
theorem new_words (w : World) (t : TypeId) (k : Nat) (hk : k < 30) : (w.alloc (.cells wordsA t)).cell? ⟨w.heap.size, k, none⟩ = some (.string (word k)) := by
  rw [Joins.cell_alloc_mark_at _ _ _ _ _ _ rfl]
  simp [wordsA, hk]
theorem refWord_in (k : Nat) (w : World) (h0 : 1 <= k) (h1 : k <= 29) : Calls Tryz.prog 69 #[.int .i64 k] w fun e w' => e = .returned (.string (word k)) /\ Below w.heap.size w w' := by
  have hc := new_words w 9 k (by omega)
  have HB := hide (below_box w (.cells wordsA 9))
  go_enter Tryz.func69, Tryz.ntmps69
  go_upto_region 2 with fail
  show Code.wp _ _ _ _ (w.alloc (.cells wordsA 9))
  generalize w.alloc (.cells wordsA 9) = W at *
  go_wp2_with fail
  go_ret
  exact ⟨rfl, HB.out⟩
theorem refWord_out (op : Int) (w : World) (h : ¬ (1 <= op /\ op <= 29)) : Calls Tryz.prog 69 #[.int .i64 op] w fun e w' => e = .returned (.string (word 0)) /\ Below w.heap.size w w' := by
  have HB := hide (below_box w (.cells wordsA 9))
  by_cases h1 : op < 1
  all_goals
    go_enter Tryz.func69, Tryz.ntmps69
    go_upto_region 2 with fail
    show Code.wp _ _ _ _ (w.alloc (.cells wordsA 9))
    generalize w.alloc (.cells wordsA 9) = W at *
    go_wp2_with fail
    go_ret
    exact ⟨rfl, HB.out⟩
theorem refWord_any (op : Int) (w : World) : Calls Tryz.prog 69 #[.int .i64 op] w fun e w' => e = .returned (.string (word (num op))) /\ Below w.heap.size w w' := by
  by_cases h : 1 <= op /\ op <= 29
  . have e : op = (op.toNat : Int) := by omega
    have := refWord_in op.toNat w (by omega) (by omega)
    rw [<- e] at this
    rwa [show num op = op.toNat from if_pos h]
  . rw [num_out h]; exact refWord_out op w h
theorem refWordI_any (op t : Int) (a b c d e f : Value) (w : World) : Calls Tryz.prog 35 #[.agg #[.int .i64 op, a, b, .int .i64 t, c, d, e, f]] w fun e w' => e = .returned (.string (iword op t)) /\ Below w.heap.size w w' := by
  have HB := hide (Box.new w [.int .i64 op, a, b, .int .i64 t, c, d, e, f] 39)
  have Hb := hide (below_box w (.cells #[.int .i64 op, a, b, .int .i64 t, c, d, e, f] 39))
  cases h : beside (num op) 128
  . have HM := hide (iword_plain (t := t) h)
    replace h := hide h
    go_enter Tryz.func35, Tryz.ntmps35
    go_wp2_with fail
    refine (typed_any op _).mono ?_; rintro e w1 ⟨rfl, rfl⟩
    rw [h.out]
    go_wp2_with fail
    refine (refWord_any op _).mono ?_; rintro e w2 ⟨rfl, b2⟩
    go_wp2_with fail
    go_ret
    exact ⟨ret_str HM.out, below_step Hb.out b2⟩
  . have HM := hide (iword_typed (t := t) h)
    replace h := hide h
    go_enter Tryz.func35, Tryz.ntmps35
    go_wp2_with fail
    refine (typed_any op _).mono ?_; rintro e w1 ⟨rfl, rfl⟩
    rw [h.out]
    have hz := word_size op
    have hl := letter_size t
    have c0 := fun x => (grew_box HB.out x).2 0 _ rfl
    have c3 := fun x => (grew_box HB.out x).2 3 _ rfl
    go_wp2_with fail
    refine region_grew (by kernel_rfl) (by kernel_rfl) ?_
    repeat (go_big_quiet_step ((first
      | (go_at_call 69; exact calls_grew (refWord_any op _))
      | (go_at_call 29; exact calls_grew_same (refLetter_any t _)))))
    refine wpQuiet_nil ?_
    rintro _ ⟨x, rfl⟩
    go_wp2_with fail
    go_ret
    exact ⟨ret_str HM.out, below_step Hb.out (grewTo_below _ x)⟩
theorem lists_new {k : Nat} (l : List Int) (hl : takes k = l) (w : World) (n cap : Nat) (hn : l.length = n) (C : Array Value) (hC : (l.map (Value.int .i64)).toArray = C) :
    Lists (takes k) w (.returned (.slice (some ⟨w.heap.size, 0, none⟩) n cap)) (w.alloc (.cells C 3)) := by
  subst hn hC
  rw [hl]
  exact ⟨_, _, rfl, .inr ⟨_, rfl, by simp, new_list l w 3⟩, below_box _ _⟩
theorem lists_at {op : Int} (k : Int) (l : List Int) (h : (op == k) = true) (hl : takes (num k) = l) (w : World) (n cap : Nat) (hn : l.length = n) (C : Array Value) (hC : (l.map (Value.int .i64)).toArray = C) :
    Lists (takes (num op)) w (.returned (.slice (some ⟨w.heap.size, 0, none⟩) n cap)) (w.alloc (.cells C 3)) := by
  have : op = k := by simpa using h
  subst this
  exact lists_new l hl w n cap hn C hC
theorem takes_two {op : Int} (h1 : 2 <= op) (h2 : op <= 7) : takes (num op) = [1, 1] := by
  have hk : ∀ k, k <= 7 -> 2 <= k -> takes k = [1, 1] := by decide +kernel
  rw [show num op = op.toNat from if_pos (by omega)]
  exact hk _ (by omega) (by omega)
theorem takes_none {op : Int} (h : ¬ (2 <= op /\ op <= 7)) (h2 : [9, 14, 11, 12, 15, 25, 13, 16, 17, 18, 19, 22, 27].contains op = false) : takes (num op) = [] := by
  by_cases ho : 1 <= op /\ op <= 29
  . have e : op = ((op.toNat : Nat) : Int) := by omega
    have hk : ∀ k, k <= 29 -> ¬ (2 <= k /\ k <= 7) -> [9, 14, 11, 12, 15, 25, 13, 16, 17, 18, 19, 22, 27].contains ((k : Nat) : Int) = false -> takes k = [] := by decide +kernel
    rw [show num op = op.toNat from if_pos ho]
    exact hk op.toNat (by omega) (by omega) (by rw [<- e]; exact h2)
  . rw [num_out ho]; rfl
theorem lists_none {op : Int} (h : ¬ (2 <= op /\ op <= 7)) (h9 : (op == 9) = false) (h14 : (op == 14) = false) (h11 : (op == 11) = false) (h12 : (op == 12) = false) (h15 : (op == 15) = false) (h25 : (op == 25) = false) (h13 : (op == 13) = false) (h16 : (op == 16) = false) (h17 : (op == 17) = false) (h18 : (op == 18) = false) (h19 : (op == 19) = false) (h22 : (op == 22) = false) (h27 : (op == 27) = false) (w : World) :
    Lists (takes (num op)) w (.returned (.slice none 0 0)) w := by
  rw [takes_none h (by simp only [List.contains_cons, List.contains_nil, h9, h14, h11, h12, h15, h25, h13, h16, h17, h18, h19, h22, h27]; rfl)]
  exact ⟨none, 0, rfl, .inl rfl, Below.refl _ _⟩
theorem refTakes_two (op : Int) (w : World) (h1 : 2 <= op) (h2 : op <= 7) : Calls Tryz.prog 75 #[.int .i64 op] w (Lists (takes (num op)) w) := by
  have HL := hide (takes_two h1 h2)
  go_enter Tryz.func75, Tryz.ntmps75
  go_wp2_with fail
  go_ret
  exact lists_new [1, 1] HL.out w _ _ rfl _ rfl
theorem refTakes_else (op : Int) (w : World) (h : ¬ (2 <= op /\ op <= 7)) : Calls Tryz.prog 75 #[.int .i64 op] w (Lists (takes (num op)) w) := by
  have HH := hide h
  by_cases hx : 2 <= op
  all_goals
    go_enter Tryz.func75, Tryz.ntmps75
    go_wp2_with fail
    all_goals go_ret
    all_goals first
      | exact lists_at 9 [2, 2] (by assumption) rfl w _ _ rfl _ rfl
      | exact lists_at 14 [2, 2] (by assumption) rfl w _ _ rfl _ rfl
      | exact lists_at 11 [2] (by assumption) rfl w _ _ rfl _ rfl
      | exact lists_at 12 [2] (by assumption) rfl w _ _ rfl _ rfl
      | exact lists_at 15 [2] (by assumption) rfl w _ _ rfl _ rfl
      | exact lists_at 25 [2] (by assumption) rfl w _ _ rfl _ rfl
      | exact lists_at 13 [2, 1] (by assumption) rfl w _ _ rfl _ rfl
      | exact lists_at 16 [3] (by assumption) rfl w _ _ rfl _ rfl
      | exact lists_at 17 [3] (by assumption) rfl w _ _ rfl _ rfl
      | exact lists_at 18 [3, 1] (by assumption) rfl w _ _ rfl _ rfl
      | exact lists_at 19 [3, 2] (by assumption) rfl w _ _ rfl _ rfl
      | exact lists_at 22 [1] (by assumption) rfl w _ _ rfl _ rfl
      | exact lists_at 27 [1] (by assumption) rfl w _ _ rfl _ rfl
      | exact lists_none HH.out (by assumption) (by assumption) (by assumption) (by assumption) (by assumption) (by assumption) (by assumption) (by assumption) (by assumption) (by assumption) (by assumption) (by assumption) (by assumption) w
theorem refTakes_any (op : Int) (w : World) : Calls Tryz.prog 75 #[.int .i64 op] w (Lists (takes (num op)) w) := by
  by_cases h : 2 <= op /\ op <= 7
  . exact refTakes_two op w h.1 h.2
  . exact refTakes_else op w h
theorem size_len (s : ByteArray) : s.data.toList.length = s.size := by simp
theorem empty_true (s : ByteArray) (h : s.size = 0) : s.toList.isEmpty = true := by
  have : s.data.toList = [] := List.length_eq_zero_iff.1 (by rw [size_len]; exact h)
  rw [ByteArray.toList_eq, this]; rfl
theorem empty_false (s : ByteArray) (h : 0 < s.size) : s.toList.isEmpty = false := by
  rw [ByteArray.toList_eq]
  cases e : s.data.toList with
  | nil => have := size_len s; rw [e] at this; simp at this; omega
  | cons => rfl
theorem refFind_full (s : ByteArray) (w : World) (hs : 0 < s.size) :
    Calls Tryz.prog 115 #[.string s] w fun e w' => e = .returned (.tuple #[.int .i64 (find s).1, .int .i64 (find s).2]) /\ Below w.heap.size w w' := by
  have hz := empty_false s hs
  go_enter Tryz.func115, Tryz.ntmps115
  go_wp2_with fail
  go_loopw [4] (fun o wr => ∃ k : Nat, 1 <= k /\ k <= 30 /\ o = .int .i64 k /\ Below w.heap.size w wr /\ Hid (Rest s k 0)) (fun o _ => 30 - (intOf o).toNat)
  case atStart => exact ⟨1, by omega, by omega, rfl, Below.refl _ _, rest_start s⟩
  case round =>
    obtain ⟨k, hk1, hk2, rfl, hB, HR⟩ := hrel
    replace hB := hide hB
    by_cases hlt : k < 30
    . have hd : decide ((k : Int) <= 29) = true := by simp; omega
      go_wp2_with fail
      go_loopw [5] (fun o wr => ∃ j : Nat, j <= 4 /\ o = .int .i64 j /\ Below w.heap.size w wr /\ Hid (Rest s k j)) (fun o _ => 4 - (intOf o).toNat)
      case atStart => exact ⟨0, by omega, rfl, hB.out, HR⟩
      case round =>
        obtain ⟨j, hj, rfl, hB2, HR2⟩ := hrel
        replace hB2 := hide hB2
        by_cases hjt : j < 4
        . cases hm : may (k : Int) (j : Int)
          . have HN := hide (rest_miss HR2.out hk1 (by omega) hjt (by rw [hm]; rfl))
            replace hm := hide hm
            go_wp2_with fail
            refine (refMay_any _ _ _).mono ?_; rintro e w1 ⟨rfl, rfl⟩
            rw [hm.out]
            go_wp2_with fail
            go_roundw
            case rel => exact ⟨j + 1, by omega, by go_num, hB2.out, HN⟩
            case measure => simp [intOf]; omega
          . cases he : (iword (k : Int) (j : Int)).toList == s.toList
            . have HN := hide (rest_miss HR2.out hk1 (by omega) hjt (by rw [hm, he]; rfl))
              replace hm := hide hm
              go_wp2_with fail
              refine (refMay_any _ _ _).mono ?_; rintro e w1 ⟨rfl, rfl⟩
              rw [hm.out]
              go_wp2_with fail
              refine (refWordI_any _ _ _ _ _ _ _ _ _).mono ?_; rintro e w2 ⟨rfl, b2⟩
              go_wp2_with fail
              go_roundw
              case rel => exact ⟨j + 1, by omega, by go_num, below_step hB2.out b2, HN⟩
              case measure => simp [intOf]; omega
            . have HN := hide (rest_hit HR2.out hk1 (by omega) hjt hm he)
              replace hm := hide hm
              go_wp2_with fail
              refine (refMay_any _ _ _).mono ?_; rintro e w1 ⟨rfl, rfl⟩
              rw [hm.out]
              go_wp2_with fail
              refine (refWordI_any _ _ _ _ _ _ _ _ _).mono ?_; rintro e w2 ⟨rfl, b2⟩
              go_wp2_with fail
              go_ret2
              exact ⟨ret_pair HN.out rfl rfl, below_step hB2.out b2⟩
        . have : j = 4 := by omega
          subst this
          go_wp2_with fail
          go_roundw
          case rel => exact ⟨k + 1, by omega, by omega, by go_num, hB2.out, hide (rest_line HR2.out hk1)⟩
          case measure => simp [intOf]; omega
    . go_wp2_with fail
      go_ret2
      exact ⟨ret_pair (rest_end HR.out (by omega)) rfl rfl, hB.out⟩
theorem refFind_any (s : ByteArray) (w : World) :
    Calls Tryz.prog 115 #[.string s] w fun e w' => e = .returned (.tuple #[.int .i64 (find s).1, .int .i64 (find s).2]) /\ Below w.heap.size w w' := by
  by_cases h : 0 < s.size
  . exact refFind_full s w h
  . have hz := empty_true s (by omega)
    have HF := hide (find_empty (s := s) (by omega))
    go_enter Tryz.func115, Tryz.ntmps115
    go_wp2_with fail
    go_ret2
    exact ⟨ret_pair HF.out rfl rfl, Below.refl _ _⟩
end Go.Proofs.YtahhbckccdigoaaGreatDoor.L5
namespace Go.Proofs.YtahhbckccdigoaaGreatDoor
open Go Go.RowKit
open G (Tok Er Ins Fun peek0 peek1 atOf)
theorem below_drewN {B : Nat} {a w : World} (h : Below B a w) (n : Nat) : Below B a (w.drewN n) := ⟨h.1, h.2, h.3, h.4, h.5⟩
def tells (s : List UInt8) (t : Int) : Bool := (L5.letter t).toList == s
theorem tells_of (s : List UInt8) (t : Int) : ((L5.letter t).toList == (bs s).toList) = tells s t := by
  unfold tells; rw [ByteArray.toList_eq (bs s), bs_data]
theorem lit_any (t : Int) (s : List UInt8) (p : Value) (g : Nat) (w : World) (h : Pair w g (.string (bs s)) p) :
    Calls Tryz.prog 123 #[.int .i64 t, .pointer (some ⟨g, 0, none⟩)] w fun e w' => e = .returned (.bool (tells s t)) /\ Below w.heap.size w w' := by
  obtain ⟨p0, p1, p2, p3, p4⟩ := h
  have HT := hide (tells_of s t)
  go_enter Tryz.func123, Tryz.ntmps123
  go_wp2_with fail
  go_quiet ((go_at_call 27; exact Calls.quiet_of_same (L5.letter_any t _)))
  go_wp2_with fail
  go_ret
  exact ⟨ret_bool HT.out, below_drewN (Below.refl _ _) _⟩
def firstAt (s : List UInt8) : List Int -> Int -> Int
  | [], _ => -1
  | t :: r, k => if tells s t then k else firstAt s r (k + 1)
theorem first_drop (s : List UInt8) (xs : List Int) (k : Nat) (t : Int) (h : xs[k]? = some t) : firstAt s (xs.drop k) k = if tells s t then (k : Int) else firstAt s (xs.drop (k + 1)) ((k + 1 : Nat) : Int) := by
  have : xs.drop k = t :: xs.drop (k + 1) := by
    obtain ⟨h1, h2⟩ := List.getElem?_eq_some_iff.1 h
    rw [List.drop_eq_getElem_cons h1, h2]
  rw [this]; rfl
theorem idx_any (s : List UInt8) (p : Value) (g : Nat) (xs : List Int) (x : Nat) (w : World) (h : Pair w g (.string (bs s)) p) (hx : x < w.heap.size /\ ∀ k t, xs[k]? = some t -> w.cell? ⟨x, k, none⟩ = some (.int .i64 t)) (hm : xs.length <= 3) :
    Calls Tryz.prog 71 #[.slice (some ⟨x, 0, none⟩) xs.length xs.length, .func (Fn.func 123) #[] #[.pointer (some ⟨g, 0, none⟩)]] w fun e w' => e = .returned (.int .i64 (firstAt s xs 0)) /\ Below w.heap.size w w' := by
  have H := hide h
  have X := hide hx
  clear h hx
  go_enter Tryz.func71, Tryz.ntmps71
  go_wp2_with fail
  go_loopw [8] (fun i wr => ∃ k : Nat, i = .int .i64 k /\ k <= xs.length /\ Below w.heap.size w wr /\ Hid (firstAt s xs 0 = firstAt s (xs.drop k) k)) (fun i _ => xs.length - (intOf i).toNat)
  case atStart => exact ⟨0, rfl, Nat.zero_le _, Below.refl _ _, rfl⟩
  case round =>
    obtain ⟨k, rfl, hk, HB, HF⟩ := hrel
    have HB := hide HB
    by_cases hlt : k < xs.length
    . obtain ⟨t, ht⟩ : ∃ t, xs[k]? = some t := ⟨xs[k], List.getElem?_eq_getElem hlt⟩
      have HS := hide (HF.out.trans (first_drop s xs k t ht))
      have hc : wr.cell? ⟨x, k, none⟩ = some (.int .i64 t) := (HB.out.cell (p := ⟨x, k, none⟩) X.out.1).trans (X.out.2 k t ht)
      have hlt' : (k : Int) < xs.length := by omega
      go_wp2_with fail
      refine (lit_any t s p g _ (H.out.below HB.out)).mono ?_; rintro e w1 ⟨rfl, b1⟩
      cases hb : tells s t with
      | true =>
        have HE := hide (HS.out.trans (if_pos hb))
        go_wp2_with fail
        go_ret
        exact ⟨by rw [HE.out]; rfl, below_step HB.out b1⟩
      | false =>
        have HE := hide (HS.out.trans (if_neg (by simp [hb])))
        go_wp2_with fail
        go_roundw
        case rel => exact ⟨k + 1, by go_num, by omega, below_step HB.out b1, HE.out⟩
        case measure => simp [intOf]; omega
    . have hk2 : k = xs.length := by omega
      subst hk2
      have HE := hide (HF.out.trans (by rw [List.drop_length]; rfl : _ = (-1 : Int)))
      go_wp2_with fail
      go_ret
      exact ⟨by rw [HE.out]; rfl, HB.out⟩
theorem tells_n (s : List UInt8) : tells s 0 = (s == [110]) := by
  unfold tells
  rw [ByteArray.toList_eq]
  show ([110] == s) = (s == [110])
  rw [Bool.eq_iff_iff, beq_iff_eq, beq_iff_eq]; exact eq_comm
theorem tells_i (s : List UInt8) : tells s 1 = (s == [105]) := by
  unfold tells
  rw [ByteArray.toList_eq]
  show ([105] == s) = (s == [105])
  rw [Bool.eq_iff_iff, beq_iff_eq, beq_iff_eq]; exact eq_comm
theorem tells_p (s : List UInt8) : tells s 2 = (s == [112]) := by
  unfold tells
  rw [ByteArray.toList_eq]
  show ([112] == s) = (s == [112])
  rw [Bool.eq_iff_iff, beq_iff_eq, beq_iff_eq]; exact eq_comm
theorem first_two (s : List UInt8) : firstAt s [1, 2] 0 = if G.kind s < 1 then -1 else G.kind s - 1 := by
  unfold firstAt firstAt firstAt
  rw [tells_i, tells_p]
  unfold G.kind
  by_cases h1 : s = [105]
  . subst h1; rfl
  by_cases h2 : s = [112]
  . subst h2; rfl
  by_cases h0 : s = [110]
  . subst h0; rfl
  simp [h0, h1, h2]
theorem first_three (s : List UInt8) : firstAt s [0, 1, 2] 0 = if G.kind s < 0 then -1 else G.kind s := by
  unfold firstAt firstAt firstAt firstAt
  rw [tells_n, tells_i, tells_p]
  unfold G.kind
  by_cases h1 : s = [105]
  . subst h1; rfl
  by_cases h2 : s = [112]
  . subst h2; rfl
  by_cases h0 : s = [110]
  . subst h0; rfl
  simp [h0, h1, h2]
theorem kind_cases (s : List UInt8) : G.kind s = -1 \/ G.kind s = 0 \/ G.kind s = 1 \/ G.kind s = 2 := by
  unfold G.kind
  split
  . simp
  . split
    . simp
    . split <;> simp
def twoKind (s : List UInt8) : Option Int := if G.kind s < 1 then none else some (G.kind s)
def threeKind (s : List UInt8) : Option Int := if G.kind s < 0 then none else some (G.kind s)
theorem typeOf_two (s : List UInt8) (p : Int) (x : Nat) (w : World) (hx : x < w.heap.size /\ ∀ k t, [(1 : Int), 2][k]? = some t -> w.cell? ⟨x, k, none⟩ = some (.int .i64 t)) :
    Calls Tryz.prog 111 #[.agg #[.string (bs s), .int .i64 p], .slice (some ⟨x, 0, none⟩) 2 2] w (Of (twoKind s) 9 p w) := by
  have hmf := mkF
  have hb := below_box w (.cells #[.string (bs s), .int .i64 p] 96)
  have H := hide (Pair.new w 96 (a := .string (bs s)) (b := .int .i64 p))
  have X : Hid (x < (w.alloc (.cells #[.string (bs s), .int .i64 p] 96)).heap.size /\ ∀ k t, [(1 : Int), 2][k]? = some t -> (w.alloc (.cells #[.string (bs s), .int .i64 p] 96)).cell? ⟨x, k, none⟩ = some (.int .i64 t)) := hide ⟨Nat.lt_of_lt_of_le hx.1 hb.size, fun k t h => (hb.cell (p := ⟨x, k, none⟩) hx.1).trans (hx.2 k t h)⟩
  have HB := hide hb
  have HF := hide (first_two s)
  have hk := kind_cases s
  clear hx hb
  go_enter Tryz.func111, Tryz.ntmps111
  go_upto_region 1 with fail
  show Code.wp _ _ _ _ (w.alloc (.cells #[.string (bs s), .int .i64 p] 96))
  generalize w.alloc (.cells #[.string (bs s), .int .i64 p] 96) = W at *
  go_wp2_with fail
  refine (idx_any s _ _ [1, 2] x _ H.out X.out (by simp)).mono ?_; rintro e w1 ⟨rfl, b1⟩
  rw [HF.out]
  obtain ⟨p0, p1, p2, p3, p4⟩ := H.out.below b1
  by_cases hs : G.kind s < 1
  . have HK : Hid (twoKind s = none) := hide (if_pos hs)
    rw [if_pos hs]
    go_wp2_with fail
    refine (need_no _ _ _ _).mono ?_; rintro e w2 ⟨rfl, b2⟩
    unfold thrown
    go_wp2_with fail
    exact bodyPost_thrown ⟨below_step HB.out (below_step b1 b2), .inr ⟨HK.out, rfl⟩⟩
  . have HK : Hid (twoKind s = some (G.kind s)) := hide (if_neg hs)
    rw [if_neg hs]
    have c1 := fun k t h => (b1.cell (p := ⟨x, k, none⟩) X.out.1).trans (X.out.2 k t h)
    have hk2 : G.kind s = 1 \/ G.kind s = 2 := by omega
    have X1 : x < w1.heap.size := Nat.lt_of_lt_of_le X.out.1 b1.size
    clear hk hs
    generalize G.kind s = q at *
    rcases hk2 with rfl | rfl
    . have c2 := hide (c1 0 1 rfl)
      clear c1
      go_wp2_with fail
      refine (need_ok _ _ _ _).mono ?_; rintro e w2 ⟨rfl, b2⟩
      have c3 := (b2.cell (p := ⟨x, 0, none⟩) X1).trans c2.out
      go_wp2_with fail
      go_ret
      exact ⟨below_step HB.out (below_step b1 b2), .inl ⟨1, HK.out, rfl⟩⟩
    . have c2 := hide (c1 1 2 rfl)
      clear c1
      go_wp2_with fail
      refine (need_ok _ _ _ _).mono ?_; rintro e w2 ⟨rfl, b2⟩
      have c3 := (b2.cell (p := ⟨x, 1, none⟩) X1).trans c2.out
      go_wp2_with fail
      go_ret
      exact ⟨below_step HB.out (below_step b1 b2), .inl ⟨2, HK.out, rfl⟩⟩
theorem typeOf_three (s : List UInt8) (p : Int) (x : Nat) (w : World) (hx : x < w.heap.size /\ ∀ k t, [(0 : Int), 1, 2][k]? = some t -> w.cell? ⟨x, k, none⟩ = some (.int .i64 t)) :
    Calls Tryz.prog 111 #[.agg #[.string (bs s), .int .i64 p], .slice (some ⟨x, 0, none⟩) 3 3] w (Of (threeKind s) 9 p w) := by
  have hmf := mkF
  have hb := below_box w (.cells #[.string (bs s), .int .i64 p] 96)
  have H := hide (Pair.new w 96 (a := .string (bs s)) (b := .int .i64 p))
  have X : Hid (x < (w.alloc (.cells #[.string (bs s), .int .i64 p] 96)).heap.size /\ ∀ k t, [(0 : Int), 1, 2][k]? = some t -> (w.alloc (.cells #[.string (bs s), .int .i64 p] 96)).cell? ⟨x, k, none⟩ = some (.int .i64 t)) := hide ⟨Nat.lt_of_lt_of_le hx.1 hb.size, fun k t h => (hb.cell (p := ⟨x, k, none⟩) hx.1).trans (hx.2 k t h)⟩
  have HB := hide hb
  have HF := hide (first_three s)
  have hk := kind_cases s
  clear hx hb
  go_enter Tryz.func111, Tryz.ntmps111
  go_upto_region 1 with fail
  show Code.wp _ _ _ _ (w.alloc (.cells #[.string (bs s), .int .i64 p] 96))
  generalize w.alloc (.cells #[.string (bs s), .int .i64 p] 96) = W at *
  go_wp2_with fail
  refine (idx_any s _ _ [0, 1, 2] x _ H.out X.out (by simp)).mono ?_; rintro e w1 ⟨rfl, b1⟩
  rw [HF.out]
  obtain ⟨p0, p1, p2, p3, p4⟩ := H.out.below b1
  by_cases hs : G.kind s < 0
  . have HK : Hid (threeKind s = none) := hide (if_pos hs)
    rw [if_pos hs]
    go_wp2_with fail
    refine (need_no _ _ _ _).mono ?_; rintro e w2 ⟨rfl, b2⟩
    unfold thrown
    go_wp2_with fail
    exact bodyPost_thrown ⟨below_step HB.out (below_step b1 b2), .inr ⟨HK.out, rfl⟩⟩
  . have HK : Hid (threeKind s = some (G.kind s)) := hide (if_neg hs)
    rw [if_neg hs]
    have c1 := fun k t h => (b1.cell (p := ⟨x, k, none⟩) X.out.1).trans (X.out.2 k t h)
    have hk2 : G.kind s = 0 \/ G.kind s = 1 \/ G.kind s = 2 := by omega
    have X1 : x < w1.heap.size := Nat.lt_of_lt_of_le X.out.1 b1.size
    clear hk hs
    generalize G.kind s = q at *
    rcases hk2 with rfl | rfl | rfl
    . have c2 := hide (c1 0 0 rfl)
      clear c1
      go_wp2_with fail
      refine (need_ok _ _ _ _).mono ?_; rintro e w2 ⟨rfl, b2⟩
      have c3 := (b2.cell (p := ⟨x, 0, none⟩) X1).trans c2.out
      go_wp2_with fail
      go_ret
      exact ⟨below_step HB.out (below_step b1 b2), .inl ⟨0, HK.out, rfl⟩⟩
    . have c2 := hide (c1 1 1 rfl)
      clear c1
      go_wp2_with fail
      refine (need_ok _ _ _ _).mono ?_; rintro e w2 ⟨rfl, b2⟩
      have c3 := (b2.cell (p := ⟨x, 1, none⟩) X1).trans c2.out
      go_wp2_with fail
      go_ret
      exact ⟨below_step HB.out (below_step b1 b2), .inl ⟨1, HK.out, rfl⟩⟩
    . have c2 := hide (c1 2 2 rfl)
      clear c1
      go_wp2_with fail
      refine (need_ok _ _ _ _).mono ?_; rintro e w2 ⟨rfl, b2⟩
      have c3 := (b2.cell (p := ⟨x, 2, none⟩) X1).trans c2.out
      go_wp2_with fail
      go_ret
      exact ⟨below_step HB.out (below_step b1 b2), .inl ⟨2, HK.out, rfl⟩⟩
end Go.Proofs.YtahhbckccdigoaaGreatDoor
