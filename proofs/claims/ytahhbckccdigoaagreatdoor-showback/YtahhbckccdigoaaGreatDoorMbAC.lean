/- Contracts of elder functions that layer 6 calls, carried over to this dump. -/
import Derived.Laws.RangeAny
import Derived.Test.YtahhbckccdigoaaGreatDoorProg
import Derived.WalkKit
import Derived.WalkSpells
import Derived.WalkSmall
import Derived.WalkLawsBesides
import Derived.Lib.OthersKept
set_option maxHeartbeats 8000000
set_option maxRecDepth 20000
namespace Go.Proofs.YtahhbckccdigoaaGreatDoor.L2
open Go.RowKit
def smaB (c : Int) : Bool := decide (97 <= c) && decide (c <= 122)
def digB (c : Int) : Bool := decide (48 <= c) && decide (c <= 57)
def greB (c : Int) : Bool := decide (65 <= c) && decide (c <= 90)
def eolB (c : Int) : Bool := decide (c = 10) || decide (c = 13)
def blaB (c : Int) : Bool := decide (c = 32) || decide (c = 9) || eolB c
def aloB (c : Int) : Bool := decide (c = 40) || decide (c = 41) || decide (c = 123) || decide (c = 125) || decide (c = 61) || decide (c = 58)
def togB (c : Int) : Bool := decide (c = 46) || decide (c = 37) || decide (c = 64) || decide (c = 45) || decide (c = 95) || smaB c || greB c || digB c
def shutW (ws : List (Nat × Nat)) (b : Option Nat) (p : Nat) : List (Nat × Nat) := match b with
  | none => ws
  | some q => ws ++ [(q, p)]
def scan : List UInt8 -> Nat -> List (Nat × Nat) -> Option Nat -> Bool -> Nat ⊕ List (Nat × Nat)
  | [], p, ws, b, _ => .inr (shutW ws b p)
  | c :: l, p, ws, b, true => scan l (p + 1) ws b (!eolB c.toNat)
  | c :: l, p, ws, b, false =>
    if togB c.toNat then scan l (p + 1) ws (some (b.getD p)) false
    else if aloB c.toNat then scan l (p + 1) (shutW ws b p ++ [(p, p + 1)]) none false
    else if (c.toNat : Int) = 35 then scan l (p + 1) (shutW ws b p) none true
    else if blaB c.toNat then scan l (p + 1) (shutW ws b p) none false
    else .inl p
theorem scan_note (c : UInt8) (l : List UInt8) (p : Nat) (ws : List (Nat × Nat)) (b : Option Nat) : scan (c :: l) p ws b true = scan l (p + 1) ws b (!eolB c.toNat) := by rw [scan]
theorem scan_tog {c : UInt8} (l : List UInt8) (p : Nat) (ws : List (Nat × Nat)) (b : Option Nat) (h : togB c.toNat = true) : scan (c :: l) p ws b false = scan l (p + 1) ws (some (b.getD p)) false := by rw [scan, if_pos h]
theorem scan_alo {c : UInt8} (l : List UInt8) (p : Nat) (ws : List (Nat × Nat)) (b : Option Nat) (h : togB c.toNat = false) (h2 : aloB c.toNat = true) : scan (c :: l) p ws b false = scan l (p + 1) (shutW ws b p ++ [(p, p + 1)]) none false := by
  rw [scan, if_neg (by simp [h]), if_pos h2]
theorem scan_hash {c : UInt8} (l : List UInt8) (p : Nat) (ws : List (Nat × Nat)) (b : Option Nat) (h : togB c.toNat = false) (h2 : aloB c.toNat = false) (h3 : (c.toNat : Int) = 35) : scan (c :: l) p ws b false = scan l (p + 1) (shutW ws b p) none true := by
  rw [scan, if_neg (by simp [h]), if_neg (by simp [h2]), if_pos h3]
theorem scan_bla {c : UInt8} (l : List UInt8) (p : Nat) (ws : List (Nat × Nat)) (b : Option Nat) (h : togB c.toNat = false) (h2 : aloB c.toNat = false) (h3 : ¬ (c.toNat : Int) = 35) (h4 : blaB c.toNat = true) : scan (c :: l) p ws b false = scan l (p + 1) (shutW ws b p) none false := by
  rw [scan, if_neg (by simp [h]), if_neg (by simp [h2]), if_neg h3, if_pos h4]
theorem scan_err {c : UInt8} (l : List UInt8) (p : Nat) (ws : List (Nat × Nat)) (b : Option Nat) (h : togB c.toNat = false) (h2 : aloB c.toNat = false) (h3 : ¬ (c.toNat : Int) = 35) (h4 : blaB c.toNat = false) : scan (c :: l) p ws b false = .inl p := by
  rw [scan, if_neg (by simp [h]), if_neg (by simp [h2]), if_neg h3, if_neg (by simp [h4])]
theorem high_kinds {c : Int} (h : 128 <= c) : togB c = false /\ aloB c = false /\ ¬ c = 35 /\ blaB c = false /\ eolB c = false /\ smaB c = false /\ digB c = false /\ ¬ c = 95 := by
  simp only [togB, aloB, blaB, eolB, smaB, digB, greB, Bool.or_eq_false_iff, Bool.and_eq_false_iff, decide_eq_false_iff_not]
  omega
theorem scan_highs (xs l : List UInt8) (p : Nat) (ws : List (Nat × Nat)) (b : Option Nat) (h : ∀ x ∈ xs, 128 <= x.toNat) : scan (xs ++ l) p ws b true = scan l (p + xs.length) ws b true := by
  induction xs generalizing p with
  | nil => simp
  | cons x xs ih =>
    have hx := (high_kinds (c := (x.toNat : Int)) (by have := h x (by simp); omega)).2.2.2.2.1
    rw [List.cons_append, scan_note, hx, Bool.not_false, ih (p + 1) (fun y hy => h y (by simp [hy]))]
    simp only [List.length_cons]
    rw [show p + 1 + xs.length = p + (xs.length + 1) by omega]
theorem drop_cons (s : ByteArray) (p : Nat) (h : p < s.size) : s.data.toList.drop p = s[p] :: s.data.toList.drop (p + 1) := by
  rw [List.drop_eq_getElem_cons (by simpa using h)]; rfl
theorem decode_all (s : ByteArray) (pos : Nat) (h : pos < s.size) (ha : 128 <= (s[pos]'h).toNat) : pos + (Utf8.decode s pos).2 <= s.size /\ ∀ j, j < (Utf8.decode s pos).2 -> 128 <= (s.get! (pos + j)).toNat := by
  have e0 := get_at s pos h
  have hn : ¬ (s[pos]'h).toNat < 128 := by omega
  have h0 : 128 <= (s.get! (pos + 0)).toNat := by rw [e0]; exact ha
  have one : ∀ n, n = 1 -> pos + n <= s.size /\ ∀ j, j < n -> 128 <= (s.get! (pos + j)).toNat := by
    rintro n rfl
    refine ⟨by omega, fun j hj => ?_⟩
    have : j = 0 := by omega
    subst this; exact h0
  simp only [Utf8.decode, e0, hn, if_false]
  split
  . rename_i c1
    simp only [Bool.and_eq_true, decide_eq_true_eq, beq_iff_eq] at c1
    split
    . refine ⟨by omega, fun j hj => ?_⟩
      rcases (show j = 0 \/ j = 1 by omega) with rfl | rfl
      . exact h0
      . omega
    . exact one _ rfl
  . split
    . rename_i c1
      simp only [Bool.and_eq_true, decide_eq_true_eq, beq_iff_eq] at c1
      split
      . refine ⟨by omega, fun j hj => ?_⟩
        rcases (show j = 0 \/ j = 1 \/ j = 2 by omega) with rfl | rfl | rfl
        . exact h0
        . omega
        . omega
      . exact one _ rfl
    . split
      . rename_i c1
        simp only [Bool.and_eq_true, decide_eq_true_eq, beq_iff_eq] at c1
        split
        . refine ⟨by omega, fun j hj => ?_⟩
          rcases (show j = 0 \/ j = 1 \/ j = 2 \/ j = 3 by omega) with rfl | rfl | rfl | rfl
          . exact h0
          . omega
          . omega
          . omega
        . exact one _ rfl
      . exact one _ rfl
theorem get_list (s : ByteArray) (j : Nat) (h : j < s.size) : s.data.toList[j]'(by simpa using h) = s.get! j := by
  rw [ByteArray.get!, getElem!_pos s.data j h]; simp
theorem blen (s : ByteArray) : s.data.toList.length = s.size := by rw [Array.length_toList]; rfl
theorem scan_pass (s : ByteArray) (pos : Nat) (ws : List (Nat × Nat)) (b : Option Nat) (h : pos < s.size) (ha : 128 <= (s[pos]'h).toNat) :
    scan (s.data.toList.drop pos) pos ws b true = scan (s.data.toList.drop (pos + (Utf8.decode s pos).2)) (pos + (Utf8.decode s pos).2) ws b true := by
  obtain ⟨h1, h2⟩ := decode_all s pos h ha
  generalize (Utf8.decode s pos).2 = k at *
  have hlen := blen s
  have e : s.data.toList.drop pos = (s.data.toList.drop pos).take k ++ s.data.toList.drop (pos + k) := by
    rw [<- List.drop_drop]; exact (List.take_append_drop k _).symm
  have hl : ((s.data.toList.drop pos).take k).length = k := by simp only [List.length_take, List.length_drop, hlen]; omega
  rw [e, scan_highs _ _ _ _ _ ?_, hl]
  intro x hx
  obtain ⟨j, hj, rfl⟩ := List.getElem_of_mem hx
  rw [hl] at hj
  have := h2 j hj
  rw [List.getElem_take, List.getElem_drop, get_list s (pos + j) (by omega)]
  exact this
def place : Nat -> List (List UInt8) -> List (Nat × Nat)
  | _, [] => []
  | p, x :: r => (p, p + x.length) :: place (p + x.length + 1) r
def words (s : ByteArray) : Nat ⊕ List (Nat × Nat) := scan s.data.toList 0 [] none false
def nameFrom : List UInt8 -> Nat -> Bool
  | [], _ => true
  | c :: l, p => (smaB c.toNat || (decide (0 < p) && (digB c.toNat || decide ((c.toNat : Int) = 95)))) && nameFrom l (p + 1)
def nameB (l : List UInt8) : Bool := decide (l.length <= 24) && nameFrom l 0 && !l.isEmpty
theorem ret_bool {a b : Bool} (h : a = b) : Ending.returned (.bool a) = .returned (.bool b) := by rw [h]
theorem small_any (c : Int) (w : World) : Calls Tryz.prog 99 #[.int .i32 c] w fun e w' => e = .returned (.bool (smaB c)) /\ w' = w := by
  by_cases h1 : 97 <= c <;> by_cases h2 : c <= 122
  all_goals
    go_enter Tryz.func99, Tryz.ntmps99
    go_wp2
    go_ret
    exact ⟨ret_bool (by simp [smaB, h1, h2]), rfl⟩
theorem digit_any (c : Int) (w : World) : Calls Tryz.prog 100 #[.int .i32 c] w fun e w' => e = .returned (.bool (digB c)) /\ w' = w := by
  by_cases h1 : 48 <= c <;> by_cases h2 : c <= 57
  all_goals
    go_enter Tryz.func100, Tryz.ntmps100
    go_wp2
    go_ret
    exact ⟨ret_bool (by simp [digB, h1, h2]), rfl⟩
theorem eol_any (c : Int) (w : World) : Calls Tryz.prog 79 #[.int .i32 c] w fun e w' => e = .returned (.bool (eolB c)) /\ w' = w := by
  go_enter Tryz.func79, Tryz.ntmps79
  go_wp2
  all_goals
    go_ret
    exact ⟨ret_bool (by grind [eolB]), rfl⟩
theorem blank_any (c : Int) (w : World) : Calls Tryz.prog 83 #[.int .i32 c] w fun e w' => e = .returned (.bool (blaB c)) /\ w' = w := by
  go_enter Tryz.func83, Tryz.ntmps83
  go_wp2_with (go_at_call 79; refine (eol_any _ _).mono ?_; rintro e w' ⟨rfl, rfl⟩)
  all_goals
    go_ret
    exact ⟨ret_bool (by grind [eolB, blaB]), rfl⟩
theorem alone_any (c : Int) (w : World) : Calls Tryz.prog 82 #[.int .i32 c] w fun e w' => e = .returned (.bool (aloB c)) /\ w' = w := by
  go_enter Tryz.func82, Tryz.ntmps82
  go_wp2
  all_goals
    go_ret
    exact ⟨ret_bool (by grind [aloB]), rfl⟩
theorem together_any (c : Int) (w : World) : Calls Tryz.prog 80 #[.int .i32 c] w fun e w' => e = .returned (.bool (togB c)) /\ w' = w := by
  go_enter Tryz.func80, Tryz.ntmps80
  go_wp2_with (first | (go_at_call 99; refine (small_any _ _).mono ?_; rintro e w' ⟨rfl, rfl⟩) | (go_at_call 100; refine (digit_any _ _).mono ?_; rintro e w' ⟨rfl, rfl⟩))
  all_goals
    go_ret
    exact ⟨ret_bool (by grind [togB, smaB, digB, greB]), rfl⟩
theorem word_any (s : ByteArray) (a b : Nat) (w : World) (_hs : s.size <= 65536) (h1 : a <= b) (h2 : b <= s.size) :
    Calls Tryz.prog 81 #[.string s, .int .i64 a, .int .i64 b] w fun e w' => e = .returned (.agg #[.string (s.extract a b), .int .i64 a]) /\ Below w.heap.size w w' := by
  go_enter Tryz.func81, Tryz.ntmps81
  go_wp2
  exact bodyPost_ret (v := .agg #[.string (s.extract a b), .int .i64 a]) (by simp [results, Tryz.results81, go_sem]) rfl ⟨rfl, (Below.refl _ _).alloc (Nat.le_refl _) _⟩
theorem hide {p : Prop} (h : p) : Hid p := h
theorem unhide {p : Prop} (h : Hid p) : p := h
theorem nameFrom_end (s : ByteArray) (p q : Nat) (h : ¬ p < s.size) : nameFrom (s.data.toList.drop p) q = true := by
  rw [List.drop_of_length_le (by rw [blen]; omega)]; rfl
theorem nameFrom_step (s : ByteArray) (p : Nat) (h : p < s.size) : nameFrom (s.data.toList.drop p) p = ((smaB (s[p]'h).toNat || (decide (0 < p) && (digB (s[p]'h).toNat || decide (((s[p]'h).toNat : Int) = 95)))) && nameFrom (s.data.toList.drop (p + 1)) (p + 1)) := by
  rw [drop_cons s p h]; rfl
theorem name_long {s : ByteArray} (h : 24 < s.size) : nameB s.data.toList = false := by
  have : ¬ s.data.toList.length <= 24 := by rw [blen]; omega
  simp only [nameB, this, decide_false, Bool.false_and]
theorem name_fit {s : ByteArray} (h : ¬ 24 < s.size) : nameB s.data.toList = (nameFrom s.data.toList 0 && !s.data.toList.isEmpty) := by
  have : s.data.toList.length <= 24 := by rw [blen]; omega
  simp only [nameB, this, decide_true, Bool.true_and]
theorem name_any (s : ByteArray) (w : World) (hs : s.size <= maxLen) :
    Calls Tryz.prog 74 #[.string s] w fun e w' => e = .returned (.bool (nameB s.data.toList)) /\ Below w.heap.size w w' := by
  unfold maxLen at hs
  by_cases hl : 24 < s.size
  . go_enter Tryz.func74, Tryz.ntmps74
    go_wp2
    go_ret
    exact ⟨ret_bool (name_long hl).symm, Below.refl _ _⟩
  . have hz : ∀ ty, (Instr.next (.pointer (some ⟨w.heap.size, 0, none⟩)) true ty).run Tryz.prog (w.iter s s.size) = _ := fun ty => run_next_end (P := Tryz.prog) w s s.size ty (Nat.lt_irrefl _)
    have HF := hide (name_fit hl)
    go_enter Tryz.func74, Tryz.ntmps74
    go_wp2
    go_loopw [] (fun wr => ∃ pos : Nat, wr = w.iter s pos /\ pos <= s.size /\ Hid (nameFrom (s.data.toList.drop pos) pos = nameFrom s.data.toList 0)) (fun wr => s.size - wr.iterPos w.heap.size)
    case atStart => exact ⟨0, rfl, Nat.zero_le _, rfl⟩
    case round =>
      obtain ⟨pos, rfl, hp, HN⟩ := hrel
      have hbel : Below w.heap.size w (w.iter s pos) := (Below.refl _ _).alloc (Nat.le_refl _) _
      by_cases hlt : pos < s.size
      . by_cases ha : (s[pos]'hlt).toNat < 128
        . have hnx := fun ty => run_next_ascii (P := Tryz.prog) w s pos ty hlt ha
          have HS := hide (nameFrom_step s pos hlt)
          cases hsm : smaB (s[pos]'hlt).toNat with
          | true =>
            go_wp2_with (first | (go_at_call 99; refine (small_any _ _).mono ?_; rintro e w' ⟨rfl, rfl⟩) | (go_at_call 100; refine (digit_any _ _).mono ?_; rintro e w' ⟨rfl, rfl⟩))
            go_roundw
            case rel => exact ⟨pos + 1, rfl, by omega, hide (by rw [<- unhide HN, unhide HS, hsm]; simp)⟩
            case measure => simp; omega
          | false =>
            by_cases h0 : 0 < pos
            . cases hdg : digB (s[pos]'hlt).toNat with
              | true =>
                go_wp2_with (first | (go_at_call 99; refine (small_any _ _).mono ?_; rintro e w' ⟨rfl, rfl⟩) | (go_at_call 100; refine (digit_any _ _).mono ?_; rintro e w' ⟨rfl, rfl⟩))
                go_roundw
                case rel => exact ⟨pos + 1, rfl, by omega, hide (by rw [<- unhide HN, unhide HS, hsm, hdg]; simp [h0])⟩
                case measure => simp; omega
              | false =>
                by_cases h95 : ((s[pos]'hlt).toNat : Int) = 95
                . have h95b : (((s[pos]'hlt).toNat : Int) == 95) = true := by rw [h95]; rfl
                  have H95 := hide h95
                  clear h95
                  go_wp2_with (first | (go_at_call 99; refine (small_any _ _).mono ?_; rintro e w' ⟨rfl, rfl⟩) | (go_at_call 100; refine (digit_any _ _).mono ?_; rintro e w' ⟨rfl, rfl⟩))
                  go_roundw
                  case rel => exact ⟨pos + 1, rfl, by omega, hide (by rw [<- unhide HN, unhide HS, hsm, hdg, unhide H95]; simp [h0])⟩
                  case measure => simp; omega
                . go_wp2_with (first | (go_at_call 99; refine (small_any _ _).mono ?_; rintro e w' ⟨rfl, rfl⟩) | (go_at_call 100; refine (digit_any _ _).mono ?_; rintro e w' ⟨rfl, rfl⟩))
                  go_ret
                  exact ⟨ret_bool (by rw [unhide HF, <- unhide HN, unhide HS, hsm, hdg]; simp [h95]), (Below.refl _ _).alloc (Nat.le_refl _) _⟩
            . go_wp2_with (first | (go_at_call 99; refine (small_any _ _).mono ?_; rintro e w' ⟨rfl, rfl⟩) | (go_at_call 100; refine (digit_any _ _).mono ?_; rintro e w' ⟨rfl, rfl⟩))
              go_ret
              exact ⟨ret_bool (by rw [unhide HF, <- unhide HN, unhide HS, hsm]; simp [h0]), (Below.refl _ _).alloc (Nat.le_refl _) _⟩
        . have hnx := fun ty => run_next_any (P := Tryz.prog) w s pos ty hlt
          have hh := (decode_high s pos hlt (by omega)).1
          have hk := high_kinds (c := ((Utf8.decode s pos).1 : Int)) (by omega)
          have hk2 := high_kinds (c := ((s[pos]'hlt).toNat : Int)) (by omega)
          obtain ⟨_, _, _, _, _, k1, k2, k3⟩ := hk
          obtain ⟨_, _, _, _, _, j1, j2, j3⟩ := hk2
          have HS := hide (nameFrom_step s pos hlt)
          by_cases h0 : 0 < pos
          all_goals
            go_wp2_with (first | (go_at_call 99; refine (small_any _ _).mono ?_; rintro e w' ⟨rfl, rfl⟩) | (go_at_call 100; refine (digit_any _ _).mono ?_; rintro e w' ⟨rfl, rfl⟩))
            go_ret
            exact ⟨ret_bool (by rw [unhide HF, <- unhide HN, unhide HS, j1, j2]; simp [j3]), (Below.refl _ _).alloc (Nat.le_refl _) _⟩
      . obtain rfl : pos = s.size := by omega
        have HE := hide (nameFrom_end s s.size s.size (Nat.lt_irrefl _))
        go_wp2
        go_ret
        exact ⟨ret_bool (by rw [unhide HF, <- unhide HN, unhide HE, ByteArray.toList_eq]; simp), hbel⟩
theorem name_none {s : ByteArray} (h : s.size < 1) : nameB s.data.toList = false := by
  have : s.data.toList = [] := List.length_eq_zero_iff.1 (by rw [blen]; omega)
  rw [this]; rfl
theorem name_some {s : ByteArray} (h : ¬ s.size < 1) (h2 : ¬ 24 < s.size) : nameB s.data.toList = nameFrom s.data.toList 0 := by
  rw [name_fit h2]
  have : s.data.toList.isEmpty = false := by
    cases e : s.data.toList with
    | nil => have := blen s; rw [e] at this; simp at this; omega
    | cons => rfl
  rw [this, Bool.not_false, Bool.and_true]
theorem rname_any (s : ByteArray) (w : World) (hs : s.size <= maxLen) :
    Calls Tryz.prog 51 #[.string s] w fun e w' => e = .returned (.bool (nameB s.data.toList)) /\ w' = w := by
  unfold maxLen at hs
  by_cases hl : s.size < 1
  . go_enter Tryz.func51, Tryz.ntmps51
    go_wp2
    go_ret
    exact ⟨ret_bool (name_none hl).symm, rfl⟩
  . by_cases hl2 : 24 < s.size
    . go_enter Tryz.func51, Tryz.ntmps51
      go_wp2
      go_ret
      exact ⟨ret_bool (name_long hl2).symm, rfl⟩
    . have HF := hide (name_some hl hl2)
      go_enter Tryz.func51, Tryz.ntmps51
      go_wp2
      go_loop [3] (fun i => ∃ pos : Nat, i = .int .i64 pos /\ pos <= s.size /\ Hid (nameFrom (s.data.toList.drop pos) pos = nameFrom s.data.toList 0)) (fun i => s.size - (intOf i).toNat)
      case atStart => exact ⟨0, rfl, Nat.zero_le _, rfl⟩
      case round =>
        obtain ⟨pos, rfl, hp, HN⟩ := hrel
        by_cases hlt : pos < s.size
        . have HS := hide (nameFrom_step s pos hlt)
          have hc : ((s[pos]'hlt).toNat : Int) <= 255 := by have := (s[pos]'hlt).toNat_lt; omega
          by_cases a0 : pos = 0 <;> by_cases a1 : 97 <= ((s[pos]'hlt).toNat : Int) <;> by_cases a2 : ((s[pos]'hlt).toNat : Int) <= 122 <;> by_cases a3 : 48 <= ((s[pos]'hlt).toNat : Int) <;> by_cases a4 : ((s[pos]'hlt).toNat : Int) <= 57
          all_goals try (exfalso; omega)
          all_goals
            have HK : Hid (nameFrom s.data.toList 0 = (_ && _)) := hide ((unhide HN).symm.trans (unhide HS))
            have HA := hide a0
            clear HN HS a0
            go_wp2
          all_goals first
            | (go_round
               case rel => exact ⟨pos + 1, by go_num, by omega, hide (by rw [unhide HK]; grind [smaB, digB])⟩
               case measure => simp [intOf]; omega)
            | (go_ret
               exact ⟨ret_bool (by rw [unhide HF, unhide HK]; grind [smaB, digB]), rfl⟩)
        . go_wp2
          go_ret
          obtain rfl : pos = s.size := by omega
          exact ⟨ret_bool (by rw [unhide HF, <- unhide HN, nameFrom_end s s.size s.size (Nat.lt_irrefl _)]), rfl⟩
theorem hideS {p : Prop} (h : p) : Hid p := h
theorem unhideS {p : Prop} (h : Hid p) : p := h
def cellsT : List (ByteArray × Int) -> List Value
  | [] => []
  | t :: r => .string t.1 :: .int .i64 t.2 :: cellsT r
def tok (s : ByteArray) (x : Nat × Nat) : ByteArray × Int := (s.extract x.1 x.2, (x.1 : Int))
theorem cellsT_append (a b : List (ByteArray × Int)) : cellsT (a ++ b) = cellsT a ++ cellsT b := by
  induction a with
  | nil => rfl
  | cons t r ih => simp [cellsT, ih]
theorem cellsT_snoc (s : ByteArray) (ws : List (Nat × Nat)) (a b : Nat) : cellsT ((ws ++ [(a, b)]).map (tok s)) = cellsT (ws.map (tok s)) ++ [.string (s.extract a b), .int .i64 a] := by
  rw [List.map_append, cellsT_append]; rfl
theorem below_grown {w w' : World} (h : Below w.heap.size w w') : w.grownBy w' none := ⟨h.1, h.2, h.3, h.4, fun k hk _ => h.5 k hk⟩
theorem Tryz.info96 : (Tryz.prog.info? 96).map (fun i => (i.zero, i.size, i.bytes)) = some (some (.agg #[.string ⟨#[]⟩, .int .i64 0]), 2, 24) := by kernel_rfl
def Going (w : World) (s : ByteArray) (v : Value) (ws : List (Nat × Nat)) (pos : Nat) (wr : World) : Prop :=
  wr.ownsRow (w.heap.size + 2) 96 2 v ws.length (cellsT (ws.map (tok s))) /\ wr.heap[w.heap.size + 1]? = some (.stringIter s pos) /\
  wr.heap[w.heap.size]? = some (.cells #[.int .i64 0, .int .i64 0] 28 (0, 0)) /\ Below w.heap.size w wr
def bg : Option Nat -> Int
  | none => -1
  | some q => q
theorem going_start (w : World) (s : ByteArray) : Going w s (.slice none 0 0) [] 0 ((w.alloc (Obj.cells #[Value.int IntKind.i64 0, Value.int IntKind.i64 0] 28)).iter s 0) := by
  refine ⟨World.ownsRow_nil _ _ _ _, ?_, ?_, ((Below.refl _ w).alloc (Nat.le_refl _) _).alloc (by simp) _⟩
  . have := World.iter_heap (w.alloc (.cells #[Value.int IntKind.i64 0, Value.int IntKind.i64 0] 28)) s 0
    simpa using this
  . exact (heap_alloc_old _ _ (by simp)).trans (heap_alloc_new w _)
theorem own_iterAt {w : World} {B k : Nat} {v : Value} {n : Nat} {xs : List Value} (h : w.ownsRow B 96 2 v n xs) (s : ByteArray) (p : Nat) (hk : k < B) : (w.iterAt k s p).ownsRow B 96 2 v n xs := by
  refine ⟨h.1, ?_⟩
  rcases h.2 with hn | ⟨g, cap, cur, hv, hbg, hg, rest⟩
  . exact .inl hn
  . exact .inr ⟨g, cap, cur, hv, hbg, (Lib.iterAt_other w k g s p (by omega)).trans hg, rest⟩
theorem going_iter {w wr : World} {s : ByteArray} {v : Value} {ws : List (Nat × Nat)} {pos : Nat} (h : Going w s v ws pos wr) (p : Nat) : Going w s v ws p (wr.iterAt (w.heap.size + 1) s p) :=
  ⟨own_iterAt h.1 s p (by omega), Lib.iterAt_heap wr _ s pos p h.2.1, (Lib.iterAt_other wr _ _ s p (by omega)).trans h.2.2.1, Lib.below_iterAt h.2.2.2 (by omega) s p⟩
theorem going_lt {w wr : World} {s : ByteArray} {v : Value} {ws : List (Nat × Nat)} {pos : Nat} (h : Going w s v ws pos wr) : w.heap.size + 2 <= wr.heap.size := by
  have := (Array.getElem?_eq_some_iff.1 h.2.1).1
  omega
theorem going_own {w wr w1 : World} {s : ByteArray} {v : Value} {ws : List (Nat × Nat)} {pos : Nat} (h : Going w s v ws pos wr) (h1 : Below wr.heap.size wr w1) (o : Obj) : (w1.alloc o).ownsRow (w.heap.size + 2) 96 2 v ws.length (cellsT (ws.map (tok s))) :=
  (h.1.kept (below_grown h1) (by cases hv : v.ownBlock <;> simp)).alloc o
theorem going_step {w wr w1 w2 : World} {s : ByteArray} {v v' : Value} {ws : List (Nat × Nat)} {pos a b : Nat} {o : Obj} (h : Going w s v ws pos wr) (h1 : Below wr.heap.size wr w1)
    (own : w2.ownsRow (w.heap.size + 2) 96 2 v' (ws.length + 1) (cellsT (ws.map (tok s)) ++ [.string (s.extract a b), .int .i64 a])) (hg : (w1.alloc o).grownBy w2 v.ownBlock) : Going w s v' (ws ++ [(a, b)]) pos w2 := by
  have hlt := going_lt h
  have hs1 := h1.size
  have hbl : ∀ k, k < w.heap.size + 2 -> w2.heap[k]? = wr.heap[k]? := by
    intro k hk
    rw [hg.block k (by simp; omega) ?_, heap_alloc_old _ _ (by omega), (below_grown h1).block k (by omega) (by simp)]
    intro e
    have := (h.1.lt k e.symm).1
    omega
  refine ⟨?_, (hbl _ (by omega)).trans h.2.1, (hbl _ (by omega)).trans h.2.2.1, ?_⟩
  . rw [cellsT_snoc, List.length_append]; exact own
  . refine Below.grown ((h.2.2.2.trans (h1.mono (by omega))).alloc (by omega) o) hg (by simp; omega) ?_
    intro k hk
    have := (h.1.lt k hk).1
    omega
theorem cells_two {w1 : World} {a b : Value} {t : TypeId} : ∀ j u, [a, b][j]? = some u -> (w1.alloc (.cells #[a, b] t)).cell? ((⟨w1.heap.size, 0, none⟩ : Addr).add j) = some u := by
  intro j u hj
  match j, hj with
  | 0, hj => simp at hj; subst hj; simp [Addr.add]
  | 1, hj => simp at hj; subst hj; simp [Addr.add]
theorem one_two {s : ByteArray} {a : Int} : ∀ u ∈ [Value.string s, Value.int .i64 a], u.oneCell' = true := by
  intro u hu
  simp only [List.mem_cons, List.not_mem_nil, or_false] at hu
  rcases hu with rfl | rfl <;> rfl
theorem rune_ascii {s : ByteArray} {p : Nat} (h : p < s.size) (hc : ¬ 128 <= ((Utf8.decode s p).1 : Int)) : (Utf8.decode s p) = ((s[p]'h).toNat, 1) := by
  by_cases ha : (s[p]'h).toNat < 128
  . exact decode_ascii s p h ha
  . have := (decode_high s p h (by omega)).1
    omega
theorem rune_size {s : ByteArray} {p : Nat} (h : p < s.size) : p + (Utf8.decode s p).2 <= s.size /\ 1 <= (Utf8.decode s p).2 := by
  by_cases ha : (s[p]'h).toNat < 128
  . rw [decode_ascii s p h ha]; exact ⟨by show p + 1 <= _; omega, Nat.le_refl _⟩
  . exact ⟨(decode_all s p h (by omega)).1, (decode_high s p h (by omega)).2⟩
theorem rune_note {s : ByteArray} {p : Nat} (h : p < s.size) (ws : List (Nat × Nat)) (b : Option Nat) : scan (s.data.toList.drop p) p ws b true = scan (s.data.toList.drop (p + (Utf8.decode s p).2)) (p + (Utf8.decode s p).2) ws b (!eolB (Utf8.decode s p).1) := by
  by_cases ha : (s[p]'h).toNat < 128
  . rw [decode_ascii s p h ha, drop_cons s p h, scan_note]
  . have hh := (decode_high s p h (by omega)).1
    rw [(high_kinds (c := ((Utf8.decode s p).1 : Int)) (by omega)).2.2.2.2.1]
    exact scan_pass s p ws b h (by omega)
theorem rune_tog {s : ByteArray} {p : Nat} (h : p < s.size) (ws : List (Nat × Nat)) (b : Option Nat) (h1 : togB (Utf8.decode s p).1 = true) : scan (s.data.toList.drop p) p ws b false = scan (s.data.toList.drop (p + (Utf8.decode s p).2)) (p + (Utf8.decode s p).2) ws (some (b.getD p)) false := by
  have hc : ¬ 128 <= ((Utf8.decode s p).1 : Int) := fun k => by rw [(high_kinds k).1] at h1; cases h1
  rw [rune_ascii h hc] at h1 ⊢
  rw [drop_cons s p h, scan_tog _ _ _ _ h1]
theorem rune_alo {s : ByteArray} {p : Nat} (h : p < s.size) (ws : List (Nat × Nat)) (b : Option Nat) (h1 : togB (Utf8.decode s p).1 = false) (h2 : aloB (Utf8.decode s p).1 = true) : scan (s.data.toList.drop p) p ws b false = scan (s.data.toList.drop (p + (Utf8.decode s p).2)) (p + (Utf8.decode s p).2) (shutW ws b p ++ [(p, p + 1)]) none false := by
  have hc : ¬ 128 <= ((Utf8.decode s p).1 : Int) := fun k => by rw [(high_kinds k).2.1] at h2; cases h2
  rw [rune_ascii h hc] at h1 h2 ⊢
  rw [drop_cons s p h, scan_alo _ _ _ _ h1 h2]
theorem rune_hash {s : ByteArray} {p : Nat} (h : p < s.size) (ws : List (Nat × Nat)) (b : Option Nat) (h1 : togB (Utf8.decode s p).1 = false) (h2 : aloB (Utf8.decode s p).1 = false) (h3 : ((Utf8.decode s p).1 : Int) = 35) : scan (s.data.toList.drop p) p ws b false = scan (s.data.toList.drop (p + (Utf8.decode s p).2)) (p + (Utf8.decode s p).2) (shutW ws b p) none true := by
  have hc : ¬ 128 <= ((Utf8.decode s p).1 : Int) := by omega
  rw [rune_ascii h hc] at h1 h2 h3 ⊢
  rw [drop_cons s p h, scan_hash _ _ _ _ h1 h2 h3]
theorem rune_bla {s : ByteArray} {p : Nat} (h : p < s.size) (ws : List (Nat × Nat)) (b : Option Nat) (h1 : togB (Utf8.decode s p).1 = false) (h2 : aloB (Utf8.decode s p).1 = false) (h3 : ¬ ((Utf8.decode s p).1 : Int) = 35) (h4 : blaB (Utf8.decode s p).1 = true) : scan (s.data.toList.drop p) p ws b false = scan (s.data.toList.drop (p + (Utf8.decode s p).2)) (p + (Utf8.decode s p).2) (shutW ws b p) none false := by
  have hc : ¬ 128 <= ((Utf8.decode s p).1 : Int) := fun k => by rw [(high_kinds k).2.2.2.1] at h4; cases h4
  rw [rune_ascii h hc] at h1 h2 h3 h4 ⊢
  rw [drop_cons s p h, scan_bla _ _ _ _ h1 h2 h3 h4]
theorem rune_err {s : ByteArray} {p : Nat} (h : p < s.size) (ws : List (Nat × Nat)) (b : Option Nat) (h1 : togB (Utf8.decode s p).1 = false) (h2 : aloB (Utf8.decode s p).1 = false) (h3 : ¬ ((Utf8.decode s p).1 : Int) = 35) (h4 : blaB (Utf8.decode s p).1 = false) : scan (s.data.toList.drop p) p ws b false = .inl p := by
  rw [drop_cons s p h]
  by_cases ha : (s[p]'h).toNat < 128
  . rw [decode_ascii s p h ha] at h1 h2 h3 h4
    exact scan_err _ _ _ _ h1 h2 h3 h4
  . have hk := high_kinds (c := ((s[p]'h).toNat : Int)) (by omega)
    exact scan_err _ _ _ _ hk.1 hk.2.1 hk.2.2.1 hk.2.2.2.1
theorem word_one (s : ByteArray) (a : Nat) (w : World) (hs : s.size <= 65536) (h2 : a < s.size) :
    Calls Tryz.prog 81 #[.string s, .int .i64 a, .int .i64 (a + 1)] w fun e w' => e = .returned (.agg #[.string (s.extract a (a + 1)), .int .i64 a]) /\ Below w.heap.size w w' :=
  word_any s a (a + 1) w hs (by omega) (by omega)
theorem going_err {w wr : World} {s : ByteArray} {v : Value} {ws : List (Nat × Nat)} {pos : Nat} (h : Going w s v ws pos wr) :
    wr.cell? ⟨w.heap.size, 0, none⟩ = some (.int .i64 0) /\ wr.cell? ⟨w.heap.size, 1, none⟩ = some (.int .i64 0) /\ wr.frozen? ⟨w.heap.size, 0, none⟩ = false /\ wr.frozen? ⟨w.heap.size, 1, none⟩ = false := by
  have := h.2.2.1
  simp [World.cell?, World.frozen?, this]
theorem scan_end {s : ByteArray} {ws : List (Nat × Nat)} {b : Option Nat} {n : Bool} {R : Nat ⊕ List (Nat × Nat)} (h : scan (s.data.toList.drop s.size) s.size ws b n = R) : R = .inr (shutW ws b s.size) := by
  rw [List.drop_of_length_le (by rw [blen]; omega), scan] at h
  exact h.symm
theorem going_set {w wr : World} {s : ByteArray} {v : Value} {ws : List (Nat × Nat)} {pos : Nat} (h : Going w s v ws pos wr) (a b : Value) :
    Below w.heap.size w ((wr.setCell ⟨w.heap.size, 0, none⟩ a).setCell ⟨w.heap.size, 1, none⟩ b) /\ ((wr.setCell ⟨w.heap.size, 0, none⟩ a).setCell ⟨w.heap.size, 1, none⟩ b).ownsRow (w.heap.size + 2) 96 2 v ws.length (cellsT (ws.map (tok s))) :=
  ⟨(h.2.2.2.setCell (Nat.le_refl _) _).setCell (Nat.le_refl _) _, ownsRow_setCell_below (ownsRow_setCell_below h.1 (by simp) _) (by simp) _⟩
theorem split_try (s : ByteArray) (w : World) (hs : s.size <= 65536) :
    Calls Tryz.prog 54 #[.string s] w fun e w' => Below w.heap.size w w' /\
      ((∃ x, words s = .inl x /\ e = .returned (.tuple #[.slice none 0 0, .agg #[.int .i64 1, .int .i64 x]])) \/
       (∃ v ws, words s = .inr ws /\ e = .returned (.tuple #[v, .agg #[.int .i64 0, .int .i64 0]]) /\ w'.ownsRow (w.heap.size + 2) 96 2 v ws.length (cellsT (ws.map (tok s))))) := by
  obtain ⟨i0, hi, hz0, hz1, hz2⟩ := info_parts Tryz.info96
  go_enter Tryz.func54, Tryz.ntmps54
  go_wp2_with fail
  go_loopw [4, 5, 6] (fun v b n wr => ∃ (pos : Nat) (ws : List (Nat × Nat)) (bo : Option Nat) (nb : Bool), b = .int .i64 (bg bo) /\ n = .bool nb /\ Going w s v ws pos wr /\ pos <= s.size /\ ws.length <= 2 * pos /\ (∀ q, bo = some q -> q < pos) /\ (nb = true -> bo = none) /\ Hid (scan (s.data.toList.drop pos) pos ws bo nb = words s)) (fun _ _ _ wr => s.size - wr.iterPos (w.heap.size + 1))
  case atStart => exact ⟨0, [], none, false, rfl, rfl, going_start w s, Nat.zero_le _, Nat.le_refl _, (fun _ h => by cases h), (fun h => by cases h), rfl⟩
  case round =>
    obtain ⟨pos, ws, bo, nb, rfl, rfl, hG, hp, hwl, hbq, hnb, HN⟩ := hrel
    have HG := hideS hG
    have hit := hG.2.1
    clear hG
    by_cases hlt : pos < s.size
    . have hnx := fun ty => Lib.run_next_any_at (P := Tryz.prog) wr (w.heap.size + 1) s pos ty hit hlt
      have G2 := hideS (going_iter (unhideS HG) (pos + (Utf8.decode s pos).2))
      obtain ⟨hk1, hk2⟩ := rune_size hlt
      cases nb with
      | true =>
        have hb0 := hnb rfl
        subst hb0
        go_wp2_with (go_at_call 79; refine (eol_any _ _).mono ?_; rintro e w' ⟨rfl, rfl⟩)
        go_roundw
        case rel => exact ⟨pos + (Utf8.decode s pos).2, ws, none, !eolB (Utf8.decode s pos).1, rfl, rfl, unhideS G2, by omega, by omega, (fun _ h => by cases h), (fun _ => rfl), hideS ((rune_note hlt ws none).symm.trans (unhideS HN))⟩
        case measure => simp only [World.iterPos, (unhideS G2).2.1, hit]; omega
      | false =>
        cases htg : togB (Utf8.decode s pos).1 with
        | true =>
          cases bo with
          | none =>
            have hbg : bg none = -1 := rfl
            go_wp2_with (go_at_call 80; refine (together_any _ _).mono ?_; rintro e w' ⟨rfl, rfl⟩)
            go_roundw
            case rel => exact ⟨pos + (Utf8.decode s pos).2, ws, some pos, false, rfl, rfl, unhideS G2, by omega, by omega, (fun q h => by cases h; omega), (fun h => by cases h), hideS ((rune_tog hlt ws none htg).symm.trans (unhideS HN))⟩
            case measure => simp only [World.iterPos, (unhideS G2).2.1, hit]; omega
          | some q =>
            have hbg : bg (some q) = (q : Int) := rfl
            have hq := hbq q rfl
            go_wp2_with (go_at_call 80; refine (together_any _ _).mono ?_; rintro e w' ⟨rfl, rfl⟩)
            go_roundw
            case rel => exact ⟨pos + (Utf8.decode s pos).2, ws, some q, false, rfl, rfl, unhideS G2, by omega, by omega, (fun q h => by cases h; omega), (fun h => by cases h), hideS ((rune_tog hlt ws (some q) htg).symm.trans (unhideS HN))⟩
            case measure => simp only [World.iterPos, (unhideS G2).2.1, hit]; omega
        | false =>
          cases bo with
          | none =>
            have hbg : bg none = -1 := rfl
            cases hal : aloB (Utf8.decode s pos).1 with
            | true =>
              go_wp2_with (first | (go_at_call 80; refine (together_any _ _).mono ?_; rintro e w' ⟨rfl, rfl⟩) | (go_at_call 82; refine (alone_any _ _).mono ?_; rintro e w' ⟨rfl, rfl⟩))
              refine (word_one s pos _ hs hlt).mono ?_
              rintro e w1 ⟨rfl, b1⟩
              have hsz : w.heap.size + 2 <= w1.heap.size := Nat.le_trans (going_lt (unhideS G2)) b1.size
              go_wp2_with (at_builtin; refine wpList_append_own _ rfl (.tmp 46) (.tmp 52) 71 rfl (w.heap.size + 2) 96 i0 _ 2 24 Tryz.underlying71 hi hz0 hz1 hz2 rfl (by decide) _ _ _ rfl (going_own (unhideS G2) b1 _) ⟨w1.heap.size, 0, none⟩ 1 1 [.string (s.extract pos (pos + 1)), .int .i64 pos] rfl rfl cells_two one_two (by unfold maxLen; omega) (by omega) (by simp; omega) ?_; intro v2 w2 own2 grow2 _)
              have G3 := hideS (going_step (unhideS G2) b1 own2 grow2)
              clear own2 grow2
              go_wp2
              go_roundw
              case rel => exact ⟨pos + (Utf8.decode s pos).2, ws ++ [(pos, pos + 1)], none, false, rfl, rfl, unhideS G3, by omega, by simp; omega, (fun _ h => by cases h), (fun h => by cases h), hideS ((rune_alo hlt ws none htg hal).symm.trans (unhideS HN))⟩
              case measure => simp only [World.iterPos, (unhideS G3).2.1, hit]; omega
            | false =>
              by_cases h35 : ((Utf8.decode s pos).1 : Int) = 35
              . have h35b : (((Utf8.decode s pos).1 : Int) == 35) = true := by rw [h35]; rfl
                have H35 := hideS h35
                clear h35
                go_wp2_with (first | (go_at_call 80; refine (together_any _ _).mono ?_; rintro e w' ⟨rfl, rfl⟩) | (go_at_call 82; refine (alone_any _ _).mono ?_; rintro e w' ⟨rfl, rfl⟩))
                go_roundw
                case rel => exact ⟨pos + (Utf8.decode s pos).2, ws, none, true, rfl, rfl, unhideS G2, by omega, by omega, (fun _ h => by cases h), (fun _ => rfl), hideS ((rune_hash hlt ws none htg hal (unhideS H35)).symm.trans (unhideS HN))⟩
                case measure => simp only [World.iterPos, (unhideS G2).2.1, hit]; omega
              . have h35b : (((Utf8.decode s pos).1 : Int) == 35) = false := by simpa using h35
                cases hbl : blaB (Utf8.decode s pos).1 with
                | true =>
                  go_wp2_with (first | (go_at_call 80; refine (together_any _ _).mono ?_; rintro e w' ⟨rfl, rfl⟩) | (go_at_call 82; refine (alone_any _ _).mono ?_; rintro e w' ⟨rfl, rfl⟩) | (go_at_call 83; refine (blank_any _ _).mono ?_; rintro e w' ⟨rfl, rfl⟩))
                  go_roundw
                  case rel => exact ⟨pos + (Utf8.decode s pos).2, ws, none, false, rfl, rfl, unhideS G2, by omega, by omega, (fun _ h => by cases h), (fun h => by cases h), hideS ((rune_bla hlt ws none htg hal h35 hbl).symm.trans (unhideS HN))⟩
                  case measure => simp only [World.iterPos, (unhideS G2).2.1, hit]; omega
                | false =>
                  obtain ⟨e0, e1, e2, e3⟩ := going_err (unhideS G2)
                  go_wp2_with (first | (go_at_call 80; refine (together_any _ _).mono ?_; rintro e w' ⟨rfl, rfl⟩) | (go_at_call 82; refine (alone_any _ _).mono ?_; rintro e w' ⟨rfl, rfl⟩) | (go_at_call 83; refine (blank_any _ _).mono ?_; rintro e w' ⟨rfl, rfl⟩))
                  exact bodyPost_ret (v := .tuple #[.slice none 0 0, .agg #[.int .i64 1, .int .i64 pos]]) (by simp [results, Tryz.results54, go_sem, e0, e1]) rfl ⟨(going_set (unhideS G2) _ _).1, .inl ⟨pos, (unhideS HN).symm.trans (rune_err hlt ws none htg hal h35 hbl), rfl⟩⟩
          | some q =>
            have hbg : bg (some q) = (q : Int) := rfl
            have hq := hbq q rfl
            go_wp2_with (go_at_call 80; refine (together_any _ _).mono ?_; rintro e w' ⟨rfl, rfl⟩)
            refine (word_any s q pos _ hs (by omega) (by omega)).mono ?_
            rintro e w1 ⟨rfl, b1⟩
            have hsz : w.heap.size + 2 <= w1.heap.size := Nat.le_trans (going_lt (unhideS G2)) b1.size
            go_wp2_with (at_builtin; refine wpList_append_own _ rfl (.tmp 30) (.tmp 35) 71 rfl (w.heap.size + 2) 96 i0 _ 2 24 Tryz.underlying71 hi hz0 hz1 hz2 rfl (by decide) _ _ _ rfl (going_own (unhideS G2) b1 _) ⟨w1.heap.size, 0, none⟩ 1 1 [.string (s.extract q pos), .int .i64 q] rfl rfl cells_two one_two (by unfold maxLen; omega) (by omega) (by simp; omega) ?_; intro v2 w2 own2 grow2 _)
            have G3 := hideS (going_step (unhideS G2) b1 own2 grow2)
            clear own2 grow2 b1
            cases hal : aloB (Utf8.decode s pos).1 with
            | true =>
              go_wp2_with (first | (go_at_call 80; refine (together_any _ _).mono ?_; rintro e w' ⟨rfl, rfl⟩) | (go_at_call 82; refine (alone_any _ _).mono ?_; rintro e w' ⟨rfl, rfl⟩))
              refine (word_one s pos _ hs hlt).mono ?_
              rintro e w3 ⟨rfl, b3⟩
              have hsz3 : w.heap.size + 2 <= w3.heap.size := Nat.le_trans (going_lt (unhideS G3)) b3.size
              go_wp2_with (at_builtin; refine wpList_append_own _ rfl (.tmp 46) (.tmp 52) 71 rfl (w.heap.size + 2) 96 i0 _ 2 24 Tryz.underlying71 hi hz0 hz1 hz2 rfl (by decide) _ _ _ rfl (going_own (unhideS G3) b3 _) ⟨w3.heap.size, 0, none⟩ 1 1 [.string (s.extract pos (pos + 1)), .int .i64 pos] rfl rfl cells_two one_two (by unfold maxLen; simp; omega) (by simp; omega) (by simp; omega) ?_; intro v4 w4 own4 grow4 _)
              have G5 := hideS (going_step (unhideS G3) b3 own4 grow4)
              clear own4 grow4
              go_wp2
              go_roundw
              case rel => exact ⟨pos + (Utf8.decode s pos).2, ws ++ [(q, pos)] ++ [(pos, pos + 1)], none, false, rfl, rfl, unhideS G5, by omega, by simp; omega, (fun _ h => by cases h), (fun h => by cases h), hideS ((rune_alo hlt ws (some q) htg hal).symm.trans (unhideS HN))⟩
              case measure => simp only [World.iterPos, (unhideS G5).2.1, hit]; omega
            | false =>
              by_cases h35 : ((Utf8.decode s pos).1 : Int) = 35
              . have h35b : (((Utf8.decode s pos).1 : Int) == 35) = true := by rw [h35]; rfl
                have H35 := hideS h35
                clear h35
                go_wp2_with (first | (go_at_call 80; refine (together_any _ _).mono ?_; rintro e w' ⟨rfl, rfl⟩) | (go_at_call 82; refine (alone_any _ _).mono ?_; rintro e w' ⟨rfl, rfl⟩))
                go_roundw
                case rel => exact ⟨pos + (Utf8.decode s pos).2, ws ++ [(q, pos)], none, true, rfl, rfl, unhideS G3, by omega, by simp; omega, (fun _ h => by cases h), (fun _ => rfl), hideS ((rune_hash hlt ws (some q) htg hal (unhideS H35)).symm.trans (unhideS HN))⟩
                case measure => simp only [World.iterPos, (unhideS G3).2.1, hit]; omega
              . have h35b : (((Utf8.decode s pos).1 : Int) == 35) = false := by simpa using h35
                cases hbl : blaB (Utf8.decode s pos).1 with
                | true =>
                  go_wp2_with (first | (go_at_call 80; refine (together_any _ _).mono ?_; rintro e w' ⟨rfl, rfl⟩) | (go_at_call 82; refine (alone_any _ _).mono ?_; rintro e w' ⟨rfl, rfl⟩) | (go_at_call 83; refine (blank_any _ _).mono ?_; rintro e w' ⟨rfl, rfl⟩))
                  go_roundw
                  case rel => exact ⟨pos + (Utf8.decode s pos).2, ws ++ [(q, pos)], none, false, rfl, rfl, unhideS G3, by omega, by simp; omega, (fun _ h => by cases h), (fun h => by cases h), hideS ((rune_bla hlt ws (some q) htg hal h35 hbl).symm.trans (unhideS HN))⟩
                  case measure => simp only [World.iterPos, (unhideS G3).2.1, hit]; omega
                | false =>
                  obtain ⟨e0, e1, e2, e3⟩ := going_err (unhideS G3)
                  go_wp2_with (first | (go_at_call 80; refine (together_any _ _).mono ?_; rintro e w' ⟨rfl, rfl⟩) | (go_at_call 82; refine (alone_any _ _).mono ?_; rintro e w' ⟨rfl, rfl⟩) | (go_at_call 83; refine (blank_any _ _).mono ?_; rintro e w' ⟨rfl, rfl⟩))
                  exact bodyPost_ret (v := .tuple #[.slice none 0 0, .agg #[.int .i64 1, .int .i64 pos]]) (by simp [results, Tryz.results54, go_sem, e0, e1]) rfl ⟨(going_set (unhideS G3) _ _).1, .inl ⟨pos, (unhideS HN).symm.trans (rune_err hlt ws (some q) htg hal h35 hbl), rfl⟩⟩
    . obtain rfl : pos = s.size := by omega
      have hnx := fun ty => Lib.run_next_end_at (P := Tryz.prog) wr (w.heap.size + 1) s s.size ty hit hlt
      cases bo with
      | none =>
        obtain ⟨e0, e1, e2, e3⟩ := going_err (unhideS HG)
        have hbg : bg none = -1 := rfl
        go_wp2
        exact bodyPost_ret (v := .tuple #[u4, .agg #[.int .i64 0, .int .i64 0]]) (by simp [results, Tryz.results54, go_sem, e0, e1]) rfl ⟨(going_set (unhideS HG) _ _).1, .inr ⟨_, ws, scan_end (unhideS HN), rfl, (going_set (unhideS HG) _ _).2⟩⟩
      | some q =>
        have hbg : bg (some q) = (q : Int) := rfl
        have hq := hbq q rfl
        go_wp2_with fail
        refine (word_any s q s.size _ hs (by omega) (by omega)).mono ?_
        rintro e w1 ⟨rfl, b1⟩
        have hsz : w.heap.size + 2 <= w1.heap.size := Nat.le_trans (going_lt (unhideS HG)) b1.size
        go_wp2_with (at_builtin; refine wpList_append_own _ rfl (.tmp 65) (.tmp 71) 71 rfl (w.heap.size + 2) 96 i0 _ 2 24 Tryz.underlying71 hi hz0 hz1 hz2 rfl (by decide) _ _ _ rfl (going_own (unhideS HG) b1 _) ⟨w1.heap.size, 0, none⟩ 1 1 [.string (s.extract q s.size), .int .i64 q] rfl rfl cells_two one_two (by unfold maxLen; omega) (by omega) (by simp; omega) ?_; intro v2 w2 own2 grow2 _; have G3 := hideS (going_step (unhideS HG) b1 own2 grow2); clear own2 grow2; obtain ⟨e0, e1, e2, e3⟩ := going_err (unhideS G3))
        exact bodyPost_ret (v := .tuple #[v2, .agg #[.int .i64 0, .int .i64 0]]) (by simp [results, Tryz.results54, go_sem, e0, e1]) rfl ⟨(going_set (unhideS G3) _ _).1, .inr ⟨_, _, scan_end (unhideS HN), rfl, (going_set (unhideS G3) _ _).2⟩⟩
end Go.Proofs.YtahhbckccdigoaaGreatDoor.L2
